/- A part of it. -/
import Derived.Test.YtnpboeodhpenmaaGreatDoorQlai
import Derived.RangeFuncNested
import Derived.RangeFuncBound
import Derived.Shelf.RegionOpen
import Derived.LoopNIn
import Derived.Sort.LoopGhostIn
import Derived.Maps.OwnIn
import Derived.Test.YtnpboeodhpenmaaGreatDoorQlaj
import Derived.Test.YtnpboeodhpenmaaGreatDoorQlao
import Derived.Shelf.SlSortCmp.NoneTotal
set_option maxRecDepth 100000
set_option maxHeartbeats 40000000
namespace Go.Proofs.YtnpboeodhpenmaaGreatDoor
open Go.RowKit
variable {w:World} {g:Nat}
def IdxTo (n:Nat) (f:Nat→Int) (v:Int) (w w':World) (e:Ending):Prop := ∃ i:Int,e=.returned (I i)∧(0≤i↔∃ j,j<n∧f j=v)∧Bl w w'
theorem index_any (w:World) (g n a:Nat) (f:Nat→Int) (v:Int) (l:ZRow w g n f) (x:n≤300) :
  Cl 253 #[.slice (Az g) n a,I v] w fun e w'=>IdxTo n f v w w' e:=by
 have o:=Hd l;clear l;go_enter Tryz.func253,Tryz.ntmps253;go_wp2;go_loopg [8] n (fun p s t=>∃ i:Nat,i≤n∧p=n - i∧s=I (i:Int)∧(∀ j,j<i→f j≠v)∧t=w)
 case atStart=>exact ⟨0,γ,rfl,rfl,fun j h=>by omega,rfl⟩
 case round =>
  obtain ⟨i,hi,rfl,rfl,k,rfl⟩:=hrel;have c:=Hd k;clear k;by_cases h1:i<n
  ·have r:(i:Int)<(n:Int):=γ;have y:(0:Int)≤(i:Int):=γ;obtain ⟨z0,_⟩:=o.out i h1;obtain ⟨u,b⟩:∃ u,u=f i:=⟨_,rfl⟩;rw [← b] at z0;have d:=Hd b;clear b;by_cases hv:v=u
   ·have m:(v == u)=true:=by simpa using hv
    clear hv;go_wp2;go_ret;refine ⟨(i:Int),rfl,⟨fun _=>⟨i,h1, ?_⟩,fun _=>by omega⟩,Qe _⟩;rw [← d.out];exact (beq_iff_eq.1 m).symm
   ·have m:(v == u)=false:=by simpa using hv
    go_wp2;go_roundg (n - (i+1))
    case measure=>omega
    case rel =>
     refine ⟨i+1,γ,rfl,σ,fun j q=>?_,rfl⟩;by_cases e:j=i
     ·subst e;rw [← d.out];exact fun e=>hv e.symm
     ·exact c.out j γ
  ·have r:¬ (i:Int)<(n:Int):=γ;go_wp2;go_ret;exact ⟨-1,rfl,⟨fun h=>by omega,fun ⟨j,q,e⟩=>absurd e (c.out j γ)⟩,Qe _⟩
def ConTo (n:Nat) (f:Nat→Int) (v:Int) (w w':World) (e:Ending):Prop := ∃ b:Bool,e=.returned (.bool b)∧(b=true↔∃ j,j<n∧f j=v)∧Bl w w'
theorem contains_any (w:World) (g n a:Nat) (f:Nat→Int) (v:Int) (c:ZRow w g n f) (j:n≤300) :
  Cl 186 #[.slice (Az g) n a,I v] w fun e w'=>ConTo n f v w w' e:=by
 have h:=Hd (index_any w g n a f v c j);clear c;go_enter Tryz.func186,Tryz.ntmps186;go_wp2_with (go_at_call 253;refine h.out.mono ?_;rintro e k ⟨i,rfl,h1,d⟩;have b:=H2 h1 d;clear h1 d)
 go_ret;exact ⟨_,rfl,by rw [decide_eq_true_eq];exact b.out.1,b.out.2⟩
abbrev C5:=E4×Int
def ltC (x y:C5):Bool:=lessE x.1.1 x.1.2.1 x.1.2.2.1 x.1.2.2.2 y.1.1 y.1.2.1 y.1.2.2.1 y.1.2.2.2 || (sameB x.1.1 x.1.2.1 x.1.2.2.1 x.1.2.2.2 y.1.1 y.1.2.1 y.1.2.2.1 y.1.2.2.2 && decide (x.2<y.2))
theorem Ku (x y:C5):ltC x y=true↔x.1.1<y.1.1∨(x.1.1=y.1.1∧(x.1.2.1<y.1.2.1∨(x.1.2.1=y.1.2.1∧(x.1.2.2.1<y.1.2.2.1∨(x.1.2.2.1=y.1.2.2.1∧(x.1.2.2.2<y.1.2.2.2∨(x.1.2.2.2=y.1.2.2.2∧x.2<y.2))))))):=by
 simp only [ltC,lessE,lessB,sameB,Bool.or_eq_true,Bool.and_eq_true,decide_eq_true_eq];omega
theorem Qbn (x:C5):ltC x x=false:=by
 rw [← Bool.not_eq_true,Ku];omega
theorem Qab {x y z:C5} (h1:ltC x y=true) (h2:ltC y z=true):ltC x z=true:=by
 rw [Ku] at *;omega
theorem ltC_tri {x y:C5} (h1:ltC x y=false) (h2:x≠y):ltC y x=true:=by
 rw [← Bool.not_eq_true,Ku] at h1;rw [Ku];obtain ⟨⟨a,b,c,d⟩,k⟩:=x;obtain ⟨⟨p,q,r,s⟩,l⟩:=y;simp only [ne_eq,Prod.mk.injEq] at *;omega
def insC:List C5→C5→List C5
 | [],x=>[x]
 | a :: r,x=>if ltC a x then a :: insC r x else if a=x then a :: r else x :: a :: r
theorem Ky (x y:C5):∀ A:List C5,y∈insC A x↔y∈A∨y=x
 | []=>by simp [insC]
 | a :: r=>by
  unfold insC;split
  ·rw [List.mem_cons,Ky x y r,List.mem_cons,or_assoc]
  ·split
   ·rename_i h
    subst h;constructor
    ·exact Or.inl
    ·rintro (h | rfl)
     ·exact h
     ·exact List.mem_cons_self ..
   ·rw [List.mem_cons];constructor
    ·rintro (h | h)
     ·exact Or.inr h
     ·exact Or.inl h
    ·rintro (h | h)
     ·exact Or.inr h
     ·exact Or.inl h
theorem insC_up (x:C5):∀ A:List C5,A.Pairwise (fun a b=>ltC a b=true)→(insC A x).Pairwise (fun a b=>ltC a b=true)
 | [],_=>by simp [insC]
 | a :: r,h=>by
  rw [List.pairwise_cons] at h;unfold insC;split
  ·rename_i hl
   rw [List.pairwise_cons];refine ⟨fun b c=>?_,insC_up x r h.2⟩;rcases (Ky x b r).1 c with c | rfl
   ·exact h.1 b c
   ·exact hl
  ·rename_i hl
   split
   ·exact List.pairwise_cons.2 h
   ·rename_i hne
    have h2:=ltC_tri (by simpa using hl) hne;rw [List.pairwise_cons];refine ⟨fun b c=>?_,List.pairwise_cons.2 h⟩;rcases List.mem_cons.1 c with rfl | c
    ·exact h2
    ·exact Qab h2 (h.1 b c)
theorem insC_len (x:C5):∀ A:List C5,(insC A x).length≤A.length+1
 | []=>by simp [insC]
 | a :: r=>by
  have:=insC_len x r;unfold insC;split
  ·simp;omega
  ·split <;> simp
theorem insC_at (x:C5):∀ (A:List C5) (k:Nat),k≤A.length→(∀ j (h:j<A.length),j<k→ltC A[j] x=true)→(∀ h:k<A.length,ltC A[k] x=false)→insC A x=if ∃ h:k<A.length,A[k]=x then A else A.take k ++ [x] ++ A.drop k
 | [],0,_,_,_=>by simp [insC]
 | a :: r,0,_,_,h2=>by
  have:=h2 ξ;rw [List.getElem_cons_zero] at this;unfold insC;rw [if_neg (by rw [this];simp)];by_cases e:a=x
  ·rw [if_pos e,if_pos ⟨ξ,by simpa using e⟩]
  ·rw [if_neg e,if_neg (fun ⟨_,h⟩=>e (by simpa using h))];simp
 | a :: r,k+1,hk,h1,h2=>by
  have h0:=h1 0 ξ γ;rw [List.getElem_cons_zero] at h0;have b:=insC_at x r k (by simpa using hk) (fun j h c=>by have:=h1 (j+1) (by simpa using h) γ;simpa using this) (fun h=>by have:=h2 (by simpa using h);simpa using this);unfold insC;rw [if_pos h0,b];by_cases e:∃ h:k<r.length,r[k]=x
  ·obtain ⟨h,e⟩:=e;rw [if_pos ⟨h,e⟩,if_pos ⟨by simpa using h,by simpa using e⟩]
  ·rw [if_neg e,if_neg (fun ⟨h,q⟩=>e ⟨by simpa using h,by simpa using q⟩)];simp
theorem same_up:∀ (A B:List C5),A.Pairwise (fun a b=>ltC a b=true)→B.Pairwise (fun a b=>ltC a b=true)→(∀ x,x∈A↔x∈B)→A=B
 | [],B,_,_,h=>by
  cases B with
  | nil=>rfl
  | cons b r=>exact absurd ((h b).2 ξ) ξ
 | a :: r,[],_,_,h=>absurd ((h a).1 ξ) ξ
 | a :: r,b :: s,h1,h2,h=>by
  rw [List.pairwise_cons] at h1 h2
  have e:a=b:=by
   rcases List.mem_cons.1 ((h a).1 ξ) with e | d
   ·exact e
   ·rcases List.mem_cons.1 ((h b).2 ξ) with e | f
    ·exact e.symm
    ·have:=Qab (h1.1 b f) (h2.1 a d);rw [Qbn] at this
     cases this
  subst e
  have:=same_up r s h1.2 h2.2 (fun x=>by
   constructor
   ·intro c;rcases List.mem_cons.1 ((h x).1 (by simp [c])) with rfl | q
    ·have:=h1.1 x c;rw [Qbn] at this
     cases this
    ·exact q
   ·intro c;rcases List.mem_cons.1 ((h x).2 (by simp [c])) with rfl | q
    ·have:=h2.1 x c;rw [Qbn] at this
     cases this
    ·exact q)
  rw [this]
theorem Xn:∀ l:List C5,(flatJ l).length=l.length*5
 | []=>rfl
 | x :: l=>by
  have:flatJ (x :: l)=flatJ [x] ++ flatJ l:=by rw [← Yg];rfl
  rw [this,List.length_append,Xn l];simp [flatJ];omega
theorem Vj (l:List C5):∀ u∈flatJ l,u.oneCell'=true:=by
 intro u a;unfold flatJ at a;obtain ⟨x,_,a⟩:=List.mem_flatMap.1 a;simp only [List.mem_cons,List.not_mem_nil,or_false] at a;rcases a with rfl | rfl | rfl | rfl | rfl <;> rfl
theorem jrow_flat {l:List C5} (h:JRow w (Az g) l) (j:Nat) (u:Value) (a:(flatJ l)[j]?=some u):At w g j u:=by
 have c:j<(flatJ l).length:=(List.getElem?_eq_some_iff.1 a).1;rw [Xn] at c;obtain ⟨q,hq⟩:∃ q,q=j / 5:=⟨_,rfl⟩;have b:q<l.length:=γ;obtain ⟨f,e,c0,c1,c2,c3,c4⟩:=h q b;simp only [Option.some.injEq,Addr.mk.injEq,and_true] at e;subst e;obtain ⟨f0,f1,f2,f3,f4⟩:=Gd l q b;have d:j=q*5∨j=q*5+1∨j=q*5+2∨j=q*5+3∨j=q*5+4:=γ;clear hq c;rcases d with rfl | rfl | rfl | rfl | rfl
 ·rw [f0] at a;exact c0.trans a
 ·rw [f1] at a;exact c1.trans a
 ·rw [f2] at a;exact c2.trans a
 ·rw [f3] at a;exact c3.trans a
 ·rw [f4] at a;exact c4.trans a
theorem jrow_take {l:List C5} (h:JRow w (Az g) l) (p j:Nat) (u:Value) (a:(flatJ (l.take p))[j]?=some u):At w g j u:=by
 refine jrow_flat h j u ?_;have e:flatJ l=flatJ (l.take p) ++ flatJ (l.drop p):=by rw [← Yg,List.take_append_drop]
 rw [e,List.getElem?_append_left (List.getElem?_eq_some_iff.1 a).1];exact a
theorem jrow_drop {l:List C5} (h:JRow w (Az g) l) (p j:Nat) (u:Value) (a:(flatJ (l.drop p))[j]?=some u):At w g (p*5+j) u:=by
 refine jrow_flat h _ u ?_;have e:flatJ l=flatJ (l.take p) ++ flatJ (l.drop p):=by rw [← Yg,List.take_append_drop]
 have b:j<(flatJ (l.drop p)).length:=(List.getElem?_eq_some_iff.1 a).1;rw [Xn,List.length_drop] at b;have c:(flatJ (l.take p)).length=p*5:=by rw [Xn,List.length_take,Nat.min_eq_left γ]
 rw [e,List.getElem?_append_right γ,c,Nat.add_sub_cancel_left];exact a
theorem addr_addC (g o j:Nat):(⟨g,o,none⟩:Addr).add j=⟨g,o+j,none⟩:=by
 unfold Addr.add;split <;> simp_all
theorem Zz {base:Nat} {e:TypeId} {v:Value} {l:List C5} (h:w.ownsRow base e 5 v l.length (flatJ l)):∃ a cap,v=.slice a l.length cap∧l.length≤cap∧JRow w a l:=by
 rcases h.2 with ⟨h1,h2⟩ | ⟨g,cap,cur,h1,_,_,h3,_⟩
 ·refine ⟨none,0,by (try simp only [At,I,Fn,Az,Ad]);rw [h1,h2],by omega,fun i hi=>by omega⟩
 ·refine ⟨some ⟨g,0,none⟩,cap,h1,h3,fun i hi=>?_⟩
  subst h1
  obtain ⟨f0,f1,f2,f3,f4⟩:=Gd l i hi
  have hl:=Xn l
  refine ⟨g,rfl, ?_, ?_, ?_, ?_, ?_⟩
  ·(try simp only [At,I]);rw [h.cellAt _ (by omega),f0]
  ·(try simp only [At,I]);rw [h.cellAt _ (by omega),f1]
  ·(try simp only [At,I]);rw [h.cellAt _ (by omega),f2]
  ·(try simp only [At,I]);rw [h.cellAt _ (by omega),f3]
  ·(try simp only [At,I]);rw [h.cellAt _ (by omega),f4]
theorem eql44 (a b c d e p q r s t:Int) (w:World) :
  (binOp .eql 44 (.agg #[I a,I b,I c,I d,I e]) (.agg #[I p,I q,I r,I s,I t])).run Tryz.prog w=.ok (.bool (sameB a b c d p q r s && decide (e=t))) w:=by
 by_cases h1:a=p
 ·subst h1;by_cases h2:b=q
  ·subst h2;by_cases h3:c=r
   ·subst h3;by_cases h4:d=s
    ·subst h4;by_cases h5:e=t
     ·subst h5;simp [go_sem,sameB]
     ·have f:(e == t)=false:=by simpa using h5
      simp [go_sem,sameB,f,h5]
    ·have e:(d == s)=false:=by simpa using h4
     simp [go_sem,sameB,e,h4]
   ·have e:(c == r)=false:=by simpa using h3
    simp [go_sem,sameB,e,h3]
  ·have e:(b == q)=false:=by simpa using h2
   simp [go_sem,sameB,e,h2]
 ·have e:(a == p)=false:=by simpa using h1
  simp [go_sem,sameB,e,h1]
theorem inf44:(Tryz.prog.info? 44).map (fun i=>(i.zero,i.size,i.bytes))=some (some (.agg #[I 0,I 0,I 0,I 0,I 0]),5,40):=η
end Go.Proofs.YtnpboeodhpenmaaGreatDoor
namespace Go.Proofs.YtnpboeodhpenmaaGreatDoor
open Go.RowKit Go.Shelf Go.ChangeMaps
variable {W w:World} {c n:Nat} {P:Program} {v:Value}
attribute [local go_sem] Oper.semAt_some
def Rec (fn:FuncId) (tmps:Array Value) (ps:Array Tmp) (assign body:Code) (D:Nat) (st:LoopState):Loop:={ state:=st,pending:=none,fn:=fn,tmps:=tmps,params:=ps,assign:=assign,body:=body,defers:=D }
theorem range_outer {g:Operand} {b:Array Tmp} {assign body:Code} {Q:Exit→Act→World→Prop} {a:Act} {gf:Nat} {lb:Array Value} (hg:a.eval g=.func (.func gf) #[] lb) (c:∀ args w,(callFunc gf args).run P w=.ok (.enter gf args) w)
  (h:∀ fn,CallsIn .wide (n - 1) P gf (#[.func (.yield (w.heap.size+1)) #[] #[]] ++ lb) ((w.alloc (.deferred (some []))).alloc (.loop (Rec fn a.tmps b assign body w.heap.size .ready))) fun e W=>(∃ v,e=.returned v)∧W.heap[w.heap.size+1]?=some (.loop (Rec fn a.tmps b assign body w.heap.size .ready))∧Q .normal { a with defers:={ target:=.collected w.heap.size,args:=#[] } :: a.defers } (W.putObj (w.heap.size+1) (.loop (Rec fn a.tmps b assign body w.heap.size .exhausted)))) :
  (Code.rangeFunc g b assign body).wpIn .wide n P Q a w:=by
 refine wpIn_rangeFunc ?_;intro fn _;refine ⟨w.heap.size+1,[{ target:=.collected w.heap.size,args:=#[] }],((w.alloc (.deferred (some []))).alloc (.loop (Rec fn a.tmps b assign body w.heap.size .ready))),{ target:=.fn (.func gf) lb,args:=#[.func (.yield (w.heap.size+1)) #[] #[]] },((w.alloc (.deferred (some []))).alloc (.loop (Rec fn a.tmps b assign body w.heap.size .ready))),gf,#[.func (.yield (w.heap.size+1)) #[] #[]] ++ lb,((w.alloc (.deferred (some []))).alloc (.loop (Rec fn a.tmps b assign body w.heap.size .ready))),run_enterLoop_outer _ _ _ _ _, ?_,fun _ _=>trivial, ?_,fun h=>(by cases h), ?_⟩
 ·simp only [resolve,hg];simp [go_sem]
 ·simp [invoke,go_sem,c]
 ·refine (h fn).mono ?_;rintro e W ⟨⟨v,rfl⟩,d,hq⟩;exact ⟨none,_,run_endLoop d (by simp [Rec]),hq⟩
theorem round_of {l m:Nat} {R:Ending→World→Prop} {fn:FuncId} {tmps:Array Value} {c:Array Tmp} {assign body:Code} {D:Nat} {args:Array Value} (g:W.heap[l]?=some (.loop (Rec fn tmps c assign body D .ready))) (hs:args.size=c.size) (f:Act)
  (a:∀ K:Act→World→Prop,K f W→assign.wpIn (Fence.wide.inRound l) m P (Exit.then K (fun _ _ _=>False)) { tmps:=(c.zip args).foldl (fun t (p,v)=>t.setIfInBounds p v) tmps,defers:=[] } W)
  (b:body.wpIn (Fence.wide.inRound l) m P (fun e _ d=>e=.normal∧d.heap[l]?=some (.loop (Rec fn tmps c assign body D .busy))∧R (.returned (.bool true)) (d.putObj l (.loop (Rec fn tmps c assign body D .ready)))) f (W.putObj l (.loop (Rec fn tmps c assign body D .busy)))) :
  YieldAt .wide m P l args W R:=by
 refine ⟨fn,_,assign,body,run_yield g hs,roundIn_of_wpIn trivial (a _ ⟨_,run_beginRound g rfl,wpIn_mono b ?_⟩)⟩;rintro e a3 d ⟨rfl,h3,hr⟩;exact ⟨_,_,run_endRound none h3,hr⟩
theorem RoundIn_any {m a:Nat} {l:Nat} {f:FuncId} {tmps:Array Value} {assign body:Code} {R:Ending→World→Prop} (h:RoundIn .wide m P l f tmps assign body w R):RoundIn .wide a P l f tmps assign body w R:=⟨h.1,fun c cs _=>h.2 c cs (room_wide _)⟩
structure Frm (J:Option (Nat×Obj)→List (T3×Value×Nat)→World→Prop):Prop where
 gro:∀ {fb vis W W'},J fb vis W→Bl W W'→J fb vis W'
 new:∀ {vis W o},J none vis W→J (some (W.heap.size,o)) vis (W.alloc o)
 put:∀ {b o vis W} (o':Obj),J (some (b,o)) vis W→J (some (b,o')) vis (W.putObj b o')
 here:∀ {b o vis W},J (some (b,o)) vis W→W.heap[b]?=some o
 tail:∀ {b o vis W},J (some (b,o)) vis W→J none vis W
def JJ (n₀:Nat) (C:(Nat→Prop)→List (T3×Value×Nat)→World→Prop) (fb:Option (Nat×Obj)) (vis:List (T3×Value×Nat)) (W:World):Prop:=(∀ x,fb=some x→W.heap[x.1]?=some x.2∧n₀≤x.1)∧∃ mb,C mb vis W∧∀ x,fb=some x→¬ mb x.1
theorem put_other {b:Nat} {o:Obj} (h:c≠b):(W.putObj b o).heap[c]?=W.heap[c]?:=World.putObj_heap_other h
theorem Frm.of {h:Nat} {C:(Nat→Prop)→List (T3×Value×Nat)→World→Prop} (m:∀ {a k W},C a k W→h≤W.heap.size) (i:∀ {a k W f row},C a k W→W.grownBy f row→(∀ r,row=some r→h≤r∧¬ a r)→C a k f) (n:∀ {a k W b},C a k W→a b→b<W.heap.size):Frm (JJ h C):={
 gro:=by
  rintro p k W f ⟨h2,a,h3,h4⟩ d;exact ⟨fun x c=>⟨(d.block x.1 (Array.getElem?_eq_some_iff.1 (h2 x c).1).1).trans (h2 x c).1,(h2 x c).2⟩,a,i h3 (Qy d) (fun r e=>by cases e),h4⟩
 new:=by
  rintro k W o ⟨_,a,h3,_⟩;refine ⟨fun x c=>?_,a,i (row:=none) h3 (World.grownBy_alloc _ _ _) (fun r e=>by cases e),fun x c j=>?_⟩
  ·cases c;exact ⟨heap_alloc_new W o,m h3⟩
  ·cases c;have:=n h3 j;simp only at this;omega
 put:=by
  rintro b o k W l ⟨h2,a,h3,h4⟩;have d:=h2 (b,o) rfl;have g:=(Array.getElem?_eq_some_iff.1 d.1).1;refine ⟨fun x c=>?_,a,i h3 (grownBy_putObj' W b l) (fun r e=>by cases e;exact ⟨d.2,h4 (b,o) rfl⟩),fun x c=>?_⟩
  ·cases c;exact ⟨World.putObj_heap_same g,d.2⟩
  ·cases c;exact h4 (b,o) rfl
 here:=by
  rintro b o k W ⟨h2,_⟩;exact (h2 (b,o) rfl).1
 tail:=by
  rintro b o k W ⟨h2,a,h3,h4⟩;refine ⟨?_,a,h3, ?_⟩ <;> (intro x c;cases c) }
theorem run_range_tm {a:Nat} {ls:List (T3×Value×Nat)} (h:TEM w a ls c):(Instr.range 336 (.map (some a))).run Tryz.prog w=.ok (.pointer (Az w.heap.size)) (w.alloc (.mapIter (some a) c #[] c)):=by
 unfold TEM at h;simp [Instr.range,run_underlying Tryz.underlying336,MapKept.run_getObj_map h,Result.andThen]
theorem tm_same {r:Nat} (h:r<w.heap.size) (o:Obj):(w.putObj r o).heap[r]?=some o:=World.putObj_heap_same h
def AllC (ls:List (T3×Value×Nat)) (seen:List Nat):Prop := ∀ x∈ls,x.2.2∈seen
def OneC (ls:List (T3×Value×Nat)) (seen:List Nat) (x:(T3×Value×Nat)):Prop:=x∈ls∧x.2.2 ∉ seen
theorem Gq {F:Fence} {l:Array Oper} {rest:List Oper} {o:Oper} {a:Act} {Q:Exit→Act→World→Prop} (hg:o.guard=none) (it:Operand) (g:o.op=Op.next it false) (f r c:Nat) (ls:List (T3×Value×Nat)) (b:List Nat)
  (q:a.eval it=.pointer (Az r)) (z:TEM w f ls c) (hr:w.heap[r]?=some (.mapIter (some f) c b.toArray c)) (E:TGood ls c) (B:r≠f)
  (j:AllC ls b→wpListIn F n Tryz.prog l Q rest (a.put o.dst (.tuple #[.bool false])) w)
  (k:∀ (k1 k2 k3:Int) (m:Value) (i:Nat) (s:World),OneC ls b ((k1,k2,k3),m,i)→Bl w s→(Instr.entry (.pointer (Az r))).run Tryz.prog (s.putObj r (.mapIter (some f) c (b ++ [i]).toArray c))=.ok (.tuple #[.agg #[I k1,I k2,I k3],m]) (s.putObj r (.mapIter (some f) c (b ++ [i]).toArray c)) →
   wpListIn F n Tryz.prog l Q rest (a.put o.dst (.tuple #[.bool true,.agg #[I k1,I k2,I k3],m])) (s.putObj r (.mapIter (some f) c (b ++ [i]).toArray c))):wpListIn F n Tryz.prog l Q (o :: rest) a w:=by
 refine wpListIn_plain hg fun K p=>?_;unfold Oper.wpIn;refine ⟨by simp [Oper.about,g], ?_⟩;rw [Oper.semAt_plain F _ _ (by rw [g];intro c t;cases t)]
 have hold:∀ x∈((ls.map TtoE).toArray).toList,x.born<c:=fun x h=>by
  simp only [List.mem_map] at h;obtain ⟨y,G,rfl⟩:=h;exact E.2.2 y G
 rcases run_next_at (P:=Tryz.prog) w o.type r f c c b.toArray _ c hr z hold (Nr _) with ⟨h0,d⟩ | ⟨e,u,w1,C,d⟩
 ·simp [execOp,g,q,d,Result.andThen];refine p _ _ (j (fun x h=>?_));have:leftOf (ls.map TtoE).toArray b.toArray=#[]:=Array.eq_empty_of_size_eq_zero h0;unfold leftOf at this;rw [Array.filter_eq_empty_iff] at this;have:=this (TtoE x) (by rw [List.mem_toArray];exact List.mem_map.2 ⟨x,h,rfl⟩);simpa [TtoE] using this
 ·have v:∃ x∈ls,x.2.2 ∉ b∧TtoE x=e:=by
   unfold leftOf at u;simp only [Array.toList_filter,List.mem_filter,List.mem_map] at u;obtain ⟨⟨x,h,rfl⟩,hs⟩:=u;exact ⟨x,h,by simpa [TtoE] using hs,rfl⟩
  obtain ⟨x,h,D,rfl⟩:=v
  have A:TEM w1 f ls c∧w1.heap[r]?=some (.mapIter (some f) c b.toArray c)∧Bl w w1:=by
   rcases C with rfl | rfl
   ·exact ⟨z,hr,Qe _⟩
   ·exact ⟨z,hr,Qg (Qe _)⟩
  obtain ⟨H,r1,b1⟩:=A;simp [execOp,g,q,d,Result.andThen];obtain ⟨⟨k1,k2,k3⟩,m,i⟩:=x;refine p _ _ (k k1 k2 k3 m i w1 ⟨h,D⟩ b1 ?_);have J:=(Array.getElem?_eq_some_iff.1 r1).1
  have e1:=run_entry_at (P:=Tryz.prog) (w1.putObj r (.mapIter (some f) c (b ++ [i]).toArray c)) r f c b.toArray (ls.map TtoE).toArray c (TtoE ((k1,k2,k3),m,i)) (by
   rw [tm_same J];simp [TtoE]) ((put_other (Ne.symm B)).trans H) (by simpa using List.mem_map.2 ⟨_,h,rfl⟩) (by
   have:=E.2.1;simpa [List.map_map,TtoE,Function.comp_def] using this)
  exact e1
def Vis (ls vis:List (T3×Value×Nat)):Prop:=(∀ x∈vis,x∈ls)∧(vis.map (fun x=>x.2.2)).Nodup
theorem stamp_len:∀ (a b:List Nat),a.Nodup→(∀ x∈a,x∈b)→a.length≤b.length
 | [],_,_,_=>by simp
 | x :: r,b,h,hs=>by
  rw [List.nodup_cons] at h;have d:=hs x ξ
  have h1:=stamp_len r (b.erase x) h.2 (fun y f=>by
   have c:y≠x:=fun e=>h.1 (e ▸ f);exact (List.mem_erase_of_ne c).2 (hs y (by simp [f])))
  rw [List.length_erase_of_mem d] at h1;have:=List.length_pos_of_mem d;rw [List.length_cons];omega
theorem Vis.len {ls a:List (T3×Value×Nat)} (_hG:TGood ls c) (h:Vis ls a):a.length≤ls.length:=by
 have h1:=stamp_len (a.map (fun x=>x.2.2)) (ls.map (fun x=>x.2.2)) h.2 (fun y d=>by
  obtain ⟨x,b,rfl⟩:=List.mem_map.1 d;exact List.mem_map.2 ⟨x,h.1 x b,rfl⟩)
 simpa using h1
theorem Vis.more {ls c:List (T3×Value×Nat)} {x:(T3×Value×Nat)} (h:Vis ls c) (j:x∈ls) (i:x.2.2 ∉ c.map (fun x=>x.2.2)):Vis ls (c ++ [x]):=by
 refine ⟨fun y d=>?_, ?_⟩
 ·rcases List.mem_append.1 d with d | d
  ·exact h.1 y d
  ·simp at d;rw [d];exact j
 ·rw [List.map_append,List.nodup_append];refine ⟨h.2,ξ,fun a g b f e=>?_⟩;simp at f;exact i (by rw [← f,← e];exact g)
theorem inj_stamp {ls:List (T3×Value×Nat)} (b:TGood ls c) {x y:(T3×Value×Nat)} (d:x∈ls) (f:y∈ls) (e:x.2.2=y.2.2):x=y:=by
 obtain ⟨i,hi,rfl⟩:=List.getElem_of_mem d;obtain ⟨j,a,rfl⟩:=List.getElem_of_mem f;have h2:=b.2.1;have hp:=List.pairwise_iff_getElem.1 h2;rcases Nat.lt_trichotomy i j with q | q | q
 ·exact absurd (by rw [List.getElem_map,List.getElem_map];exact e) (hp i j (by simpa using hi) (by simpa using a) q)
 ·subst q;rfl
 ·exact absurd (by rw [List.getElem_map,List.getElem_map];exact e.symm) (hp j i (by simpa using a) (by simpa using hi) q)
theorem Vis.all {ls d:List (T3×Value×Nat)} (f:TGood ls c) (h:Vis ls d) (j:∀ x∈ls,x.2.2∈d.map (fun x=>x.2.2)):d.Perm ls:=by
 have n1:d.Nodup:=List.Pairwise.of_map (fun x=>x.2.2) (fun a b q e=>q (by rw [e])) h.2;have n2:ls.Nodup:=List.Pairwise.of_map (fun x=>x.2.2) (fun a b q e=>q (by rw [e])) f.2.1;refine (List.perm_ext_iff_of_nodup n1 n2).2 fun x=>⟨h.1 x,fun g=>?_⟩;obtain ⟨y,i,e⟩:=List.mem_map.1 (j x g);rw [← inj_stamp f (h.1 y i) g e];exact i
theorem values1_in (d C c l m m':Nat) (ls:List (T3×Value×Nat)) (X:TGood ls c) (A:∀ x∈ls,∃ a n q,x.2.1=.slice a n q) (J:Option (Nat×Obj)→List (T3×Value×Nat)→World→Prop) (L:Frm J)
  (hD:∀ {fb b W},J fb b W→At W C 0 (.map (some d))∧TEM W d ls c)
  (Z:∀ {fb b x W},J fb b W→x∈ls→b.length<ls.length→YieldAt .wide m Tryz.prog l #[x.2.1] W fun e p=>e=.returned (.bool true)∧J fb (b ++ [x]) p)
  (W:World) (h0:J none [] W) :
  CallsIn .wide m' Tryz.prog 286 #[.func (.yield l) #[] #[],.pointer (Az C)] W fun e p=>(∃ v,e=.returned v)∧∃ b,b.Perm ls∧J none b p:=by
 refine callsIn_of_wp Tryz.func286 rfl trivial ?_ rfl;simp only [Tryz.ntmps286,List.size_toArray,List.length_cons,List.length_nil,Nat.reduceAdd,Nat.reduceSub,Array.replicate_succ,Array.replicate_zero,List.push_toArray,List.append_toArray,List.nil_append,List.cons_append];obtain ⟨N,k⟩:=hD h0;have P:=run_range_tm k;have zm:=k.lt;obtain ⟨r,hr⟩:∃ r,r=W.heap.size:=⟨_,rfl⟩;have h1:=L.new (o:=.mapIter (some d) c #[] c) h0;have HD:Hid (∀ fb b W,J fb b W→At W C 0 (.map (some d))∧TEM W d ls c):=fun _ _ _ h=>hD h;have HY:Hid (∀ fb b x W,J fb b W→x∈ls→b.length<ls.length→YieldAt .wide m Tryz.prog l #[x.2.1] W fun e p=>e=.returned (.bool true)∧J fb (b ++ [x]) p):=fun _ _ _ _ h1 h2 h3=>Z h1 h2 h3;have H:=Hd A;have D:=Hd X;have B:=Hd L;have E:Hid (J (some (r,.mapIter (some d) c #[] c)) [] (W.alloc (.mapIter (some d) c #[] c))):=by rw [hr];exact h1
 have G:Hid (r≠d):=by
  have:r≠d:=γ;exact this
 clear hD Z A X L h1 h0 zm;gi_wp2
 rw [← hr];obtain ⟨V,hW1⟩:∃ V,V=W.alloc (.mapIter (some d) c #[] c):=⟨_,rfl⟩;rw [← hW1] at E ⊢;clear hW1 P k N hr;gi_loopg [] ls.length (fun gk wx=>∃ b:List (T3×Value×Nat),gk=ls.length - b.length∧Vis ls b∧J (some (r,.mapIter (some d) c (b.map (fun x=>x.2.2)).toArray c)) b wx)
 case atStart=>exact ⟨[],ξ,⟨ξ,ξ⟩,E.out⟩
 case round =>
  clear E;obtain ⟨b,rfl,M,s⟩:=hrel;have hm:=(HD.out _ _ _ s).2;have z:=B.out.here s;gi_wp2_with (gi_at_next;refine Gq rfl _ rfl d r c ls (b.map (fun x=>x.2.2)) rfl hm z D.out G.out ?done ?more)
  case done =>
   intro y;gi_wp2
   go_end0
   exact ⟨⟨_,rfl⟩,b,M.all D.out y,B.out.tail s⟩
  case more =>
   intro k1 k2 k3 xv st W2 i hb f;obtain ⟨x,g⟩:∃ x:(T3×Value×Nat),x=((k1,k2,k3),xv,st):=⟨_,rfl⟩;rw [← g] at i;obtain ⟨R,T⟩:=i;obtain ⟨a3,n3,q3,hv⟩:=H.out x R;have Q:st=x.2.2:=by rw [g]
   have U:xv=.slice a3 n3 q3:=by rw [← hv,g]
   rw [Q] at f ⊢;rw [U] at f ⊢;clear g;have j:=M.more R T;have O:=j.len D.out;rw [List.length_append,List.length_singleton] at O;have t:=B.out.put (.mapIter (some d) c (b.map (fun x=>x.2.2) ++ [x.2.2]).toArray c) (B.out.gro s hb);have hyy:=HY.out _ _ x _ t R γ;have K:=Hd j;rw [hv] at hyy;generalize W2.putObj r (.mapIter (some d) c (b.map (fun x=>x.2.2) ++ [x.2.2]).toArray c)=W3 at hyy f ⊢;obtain ⟨fn,tmps,assign,body,hy,Y⟩:=hyy;clear hm z s M hb t j;gi_wp2
   refine ⟨fun h=>(by cases h),(RoundIn_any Y).mono ?_⟩;rintro e W4 ⟨rfl,u⟩
   have F:Hid (J (some (r,.mapIter (some d) c ((b ++ [x]).map (fun x=>x.2.2)).toArray c)) (b ++ [x]) W4):=by
    rw [List.map_append];exact u
   clear u hy Y f;gi_wp2
   gi_roundg (ls.length - (b ++ [x]).length)
   case measure =>
    rw [List.length_append,List.length_singleton];omega
   case rel=>exact ⟨b ++ [x],rfl,K.out,F.out⟩
attribute [local go_sem] Oper.semAt_some
def valsOf (vis:List (T3×Value×Nat)):List Value:=vis.map fun x=>x.2.1
theorem valsOf_add (a:List (T3×Value×Nat)) (x:(T3×Value×Nat)):valsOf (a ++ [x])=valsOf a ++ [x.2.1]:=by simp [valsOf]
structure CA (w:World) (b0 l1 D1:Nat) (rec:Loop) (mb:Nat→Prop) (vis:List (T3×Value×Nat)) (W:World):Prop where
 m:mb b0∧mb l1∧mb D1
 lt:∀ b,mb b→b<W.heap.size
 l:W.heap[l1]?=some (.loop rec)
 d:W.heap[D1]?=some (.deferred (some []))
 b:Bl w W
 row:∃ v,Boxed W b0 288 v∧W.ownsRow w.heap.size 22 1 v vis.length (valsOf vis)∧∀ q,v.ownBlock=some q→mb q
theorem CA.grown {b0 l1 i:Nat} {a:Loop} {f:Nat→Prop} {k:List (T3×Value×Nat)} {j:World} {row:Option Nat} (h:CA w b0 l1 i a f k W) (hg:W.grownBy j row) (hr:∀ r,row=some r→w.heap.size≤r∧¬ f r):CA w b0 l1 i a f k j:=by
 have c:∀ b,f b→some b≠row:=fun b g e=>(hr b e.symm).2 g;obtain ⟨p,n,o⟩:=h.m;obtain ⟨v,r1,r2,r3⟩:=h.row;refine ⟨h.m,fun b g=>Nl (h.lt b g) hg.size,(hg.block _ (h.lt _ n) (c _ n)).trans h.l,(hg.block _ (h.lt _ o) (c _ o)).trans h.d,h.b.grown hg h.b.size (fun r e=>(hr r e).1),v,r1.kept hg (c _ p),r2.kept hg ?_,r3⟩
 cases e:v.ownBlock with
 | none=>exact Or.inl rfl
 | some q=>exact Or.inr (fun e2=>c q (r3 q e) e2)
theorem CA.fr (w:World) (b0 l1 c:Nat) (a:Loop):Frm (JJ w.heap.size (CA w b0 l1 c a)) :=
 Frm.of (fun h=>h.b.size) (fun h hg hr=>h.grown hg hr) (fun h d=>h.lt _ d)
theorem Gx {base e:Nat} {c:List Value} {q:Nat} (h:W.ownsRow base e 1 v n c) (hq:v.ownBlock=some q):∃ a,W.heap[q]?=some (.cells a e):=by
 rcases h.2 with ⟨rfl,_⟩ | ⟨g,b,a,rfl,_,h3,_⟩
 ·simp [Value.ownBlock] at hq
 ·simp [Value.ownBlock] at hq;subst hq;exact ⟨a,h3⟩
theorem JA.yes {w1:World} {b0 l1:Nat} {R:LoopState→Loop} {L:Option (Nat×Obj)} {f:List (T3×Value×Nat)} {x:(T3×Value×Nat)} {tmp:Obj} {K:Nat→Prop} {v':Value} (hd:b0≠l1∧n≠l1∧n≠b0) (D:w.heap.size≤b0∧w.heap.size≤l1)
  (h2:∀ y,L=some y→W.heap[y.1]?=some y.2∧w.heap.size≤y.1) (g:CA w b0 l1 n (R .ready) K f W) (h4:∀ y,L=some y→¬ K y.1)
  (r1:Boxed W b0 288 v) (r2:W.ownsRow w.heap.size 22 1 v f.length (valsOf f)) (r3:∀ q,v.ownBlock=some q→K q)
  (i:w1.ownsRow w.heap.size 22 1 v' (f.length+1) (valsOf f ++ [x.2.1])) (a:((W.putObj l1 (.loop (R .busy))).alloc tmp).grownBy w1 v.ownBlock) (F:v'.ownBlock=v.ownBlock∨v'.ownBlock=some ((W.putObj l1 (.loop (R .busy))).alloc tmp).heap.size) :
  (w1.setCell ⟨b0,0,none⟩ v').heap[l1]?=some (.loop (R .busy))∧JJ w.heap.size (CA w b0 l1 n (R .ready)) L (f ++ [x]) ((w1.setCell ⟨b0,0,none⟩ v').putObj l1 (.loop (R .ready))):=by
 obtain ⟨V,A,X⟩:=g.m;obtain ⟨d1,d2,d3⟩:=hd;obtain ⟨M,E⟩:=D;have o:=grownBy_putObj' W l1 (.loop (R .busy));have H:(W.putObj l1 (.loop (R .busy))).grownBy ((W.putObj l1 (.loop (R .busy))).alloc tmp) none:=World.grownBy_alloc _ _ _;have C:=grownBy_setCell' w1 b0 v';have J:=grownBy_putObj' (w1.setCell ⟨b0,0,none⟩ v') l1 (.loop (R .ready));have z2:W.heap.size≤((W.putObj l1 (.loop (R .busy))).alloc tmp).heap.size:=Nt o.size H.size;have z3:W.heap.size≤w1.heap.size:=Nt z2 a.size;have z4:W.heap.size≤(w1.setCell ⟨b0,0,none⟩ v').heap.size:=Nt z3 C.size
 have P:∀ q,v.ownBlock=some q→q≠l1:=fun q hq e=>by
  obtain ⟨B,p⟩:=Gx r2 hq;rw [e,g.l] at p
  cases p
 have Q:∀ q,v.ownBlock=some q→q≠n:=fun q hq e=>by
  obtain ⟨B,p⟩:=Gx r2 hq;rw [e,g.d] at p
  cases p
 have G:some b0≠v.ownBlock:=r1.not_row ψ r2
 have u:∀ b,b<W.heap.size→b≠l1→some b≠v.ownBlock→w1.heap[b]?=W.heap[b]?:=fun b c n1 T =>
  ((a.block b (Nl c z2) T).trans (H.block b (Nl c o.size) ξ)).trans (o.block b c (by simpa using n1))
 have k:∀ b,b<W.heap.size→b≠l1→b≠b0→some b≠v.ownBlock→((w1.setCell ⟨b0,0,none⟩ v').putObj l1 (.loop (R .ready))).heap[b]?=W.heap[b]?:=fun b c n1 n0 T =>
  ((J.block b (Nl c z4) (by simpa using n1)).trans (C.block b (Nl c z3) (by simpa using n0))).trans (u b c n1 T)
 have O:(W.putObj l1 (.loop (R .busy))).heap[l1]?=some (.loop (R .busy)):=World.putObj_heap_same (g.lt _ A);have N:w1.heap[l1]?=some (.loop (R .busy)):=((a.block l1 (Nl (g.lt _ A) z2) (fun e=>P l1 e.symm rfl)).trans (H.block l1 (Nl (g.lt _ A) o.size) ξ)).trans O;have s:(w1.setCell ⟨b0,0,none⟩ v').heap[l1]?=some (.loop (R .busy)):=(C.block l1 (Nl (g.lt _ A) z3) (by simpa using d1.symm)).trans N;have zf:W.heap.size≤((w1.setCell ⟨b0,0,none⟩ v').putObj l1 (.loop (R .ready))).heap.size:=Nt z4 J.size
 have j:((w1.setCell ⟨b0,0,none⟩ v').putObj l1 (.loop (R .ready))).ownsRow w.heap.size 22 1 v' (f ++ [x]).length (valsOf (f ++ [x])):=by
  have b1:Boxed w1 b0 288 v:=((r1.kept o (by simpa using d1)).alloc tmp).kept a G;have Y:=i.kept C (.inr (b1.not_row ψ i).symm);have Z:=ownsRow_putObj Y (.loop (R .ready)) s rfl;rw [List.length_append,valsOf_add];exact Z
 refine ⟨s,fun y z=>?_,fun b=>K b∨v'.ownBlock=some b,⟨⟨Or.inl V,Or.inl A,Or.inl X⟩, ?_, ?_, ?_, ?_,v', ?_,j,fun q hq=>Or.inr hq⟩, ?_⟩
 ·have h:=h2 y z;have t:=h4 y z;refine ⟨?_,h.2⟩;rw [k y.1 (Array.getElem?_eq_some_iff.1 h.1).1 (fun e=>t (e ▸ A)) (fun e=>t (e ▸ V)) (fun e=>t (r3 _ e.symm))];exact h.1
 ·rintro b (D | D)
  ·exact Nl (g.lt b D) zf
  ·obtain ⟨B,p⟩:=Gx j D;exact (Array.getElem?_eq_some_iff.1 p).1
 ·exact World.putObj_heap_same (Array.getElem?_eq_some_iff.1 s).1
 ·exact (k n (g.lt _ X) d2 d3 (fun e=>Q n e.symm rfl)).trans g.d
 ·have k1:=g.b.grown o g.b.size (fun r e=>by cases e;exact E);have k2:=k1.grown H k1.size (fun r e=>by cases e);have k3:=k2.grown a k2.size (fun r e=>(r2.lt r e).1);have U:=k3.grown C k3.size (fun r e=>by cases e;exact M);exact U.grown J U.size (fun r e=>by cases e;exact E)
 ·exact ((((r1.kept o (by simpa using d1)).alloc tmp).kept a G).set v').kept J (by simpa using d1)
 ·rintro y z (hm | hq)
  ·exact h4 y z hm
  ·have h:=h2 y z;have c:=(Array.getElem?_eq_some_iff.1 h.1).1;rcases F with e | e
   ·exact h4 y z (r3 _ (by rw [← e];exact hq))
   ·rw [e] at hq;simp only [Option.some.injEq] at hq;omega
theorem cell_oneV (w:World) (v:Value) (T:TypeId):∀ j u,([v])[j]?=some u→(w.alloc (.cells #[v] T)).cell? ((⟨w.heap.size,0,none⟩:Addr).add j)=some u:=by
 intro j u a;match j,a with
 | 0,a=>simp at a;subst a;simp [Addr.add,go_sem]
theorem infV:(Tryz.prog.info? 22).map (fun i=>(i.zero,i.size,i.bytes))=some (some SN,1,24):=η
def Gath (w w':World) (ls:List (T3×Value×Nat)) (v:Value):Prop := ∃ vis,vis.Perm ls∧w'.ownsRow w.heap.size 22 1 v vis.length (valsOf vis)∧Bl w w'
theorem appendSeq_any (E P c:Nat) (ls:List (T3×Value×Nat)) (hG:TGood ls c) (H:∀ x∈ls,∃ a n q,x.2.1=.slice a n q) (Z:ls.length≤300) (w:World) (Y:At w E 0 (.map (some P))) (hm:TEM w P ls c) :
  Cl 308 #[SN,.func (.func 286) #[] #[.pointer (Az E)]] w fun e w'=>∃ v,e=.returned v∧Gath w w' ls v:=by
 obtain ⟨n,hn⟩:∃ n:Nat,n=n:=⟨0,rfl⟩;refine (callsIn_wide (n:=n)).1 ?_;clear hn;obtain ⟨iV,U⟩:=info_parts infV;have L:=Hd U;clear U;refine callsIn_of_wp_marks Tryz.func308 rfl trivial ?_ rfl;simp only [Tryz.ntmps308,List.size_toArray,List.length_cons,List.length_nil,Nat.reduceAdd,Nat.reduceSub,Array.replicate_succ,Array.replicate_zero,List.push_toArray,List.append_toArray,List.nil_append,List.cons_append];have zd:=Bt Y;have zm:=hm.lt;gi_wp2
 refine range_outer (gf:=286) (lb:=#[.pointer (Az E)]) rfl (enters_of Tryz.func286 η rfl) (fun fn=>?_);generalize hR:Rec fn _ _ _ _ _=R;simp only [World.size_alloc] at hR ⊢;have p:w.heap.size≠w.heap.size+1+1∧w.heap.size+1≠w.heap.size+1+1∧w.heap.size+1≠w.heap.size:=γ;have C:w.heap.size≤w.heap.size∧w.heap.size≤w.heap.size+1+1:=γ
 have h0:JJ w.heap.size (CA w w.heap.size (w.heap.size+1+1) (w.heap.size+1) (R .ready)) none [] (((w.alloc (.cells #[SN] 288)).alloc (.deferred (some []))).alloc (.loop (R .ready))):=by
  refine ⟨fun x F=>(by cases F),fun b=>b=w.heap.size∨b=w.heap.size+1+1∨b=w.heap.size+1,⟨ξ, ?_, ?_, ?_, ?_,SN, ?_, ?_, ?_⟩,fun x F=>(by cases F)⟩
  ·intro b hb;simp only [World.size_alloc];omega
  ·have A:=heap_alloc_new ((w.alloc (.cells #[SN] 288)).alloc (.deferred (some []))) (.loop (R .ready));rw [World.size_alloc,World.size_alloc] at A;exact A
  ·have A:=heap_alloc_new (w.alloc (.cells #[SN] 288)) (.deferred (some []));rw [World.size_alloc] at A;exact (Below.heap_alloc _ _ _ ξ).trans A
  ·exact Qb β2
  ·exact ((Boxed.new w 288 _).alloc _).alloc _
  ·exact ⟨rfl,Or.inl ⟨rfl,rfl⟩⟩
  ·intro q hq;simp [Value.ownBlock] at hq
 refine (values1_in P E c (w.heap.size+1+1) 0 (n - 1) ls hG H (JJ w.heap.size (CA w w.heap.size (w.heap.size+1+1) (w.heap.size+1) (R .ready))) (CA.fr ..) ?hD ?hYes _ h0).mono ?_
 case hD =>
  rintro fb k W ⟨_,mb,i,_⟩;exact ⟨Qa i.b Y,hm.grown (Qy i.b) ξ⟩
 case hYes =>
  rintro fb f x W ⟨h2,mb,i,h4⟩ F a2;obtain ⟨a3,n3,O,hv⟩:=H x F;obtain ⟨v,r1,r2,r3⟩:=i.row;have t:=fun (w1:World) (v':Value) (tmp:Obj)=>JA.yes (w1:=w1) (v':=v') (tmp:=tmp) (x:=x) p C h2 i h4 r1 r2 r3;have N:=i.l;have g:=r1.kept (grownBy_putObj' W (w.heap.size+1+1) (.loop (R .busy))) (by simpa using p.1);have h:=ownsRow_putObj r2 (.loop (R .busy)) N rfl
  have zz:w.heap.size≤(W.putObj (w.heap.size+1+1) (.loop (R .busy))).heap.size:=by
   rw [World.putObj_size];exact i.b.size
  rw [hv] at t ⊢;have HF:=Hd t
  obtain ⟨B,c8,rfl⟩:∃ B c8,v=.slice B f.length c8:=by
   rcases r2.2 with ⟨rfl,A⟩ | ⟨Q,s,G,rfl,_⟩
   ·exact ⟨none,0,by rw [A]⟩
   ·exact ⟨_,s,rfl⟩
  clear h2 i h4 r1 r2 r3 F t hv;rw [← hR] at N;refine round_of N rfl { tmps:=#[SN,.func (.func 286) #[] #[.pointer (Az E)],.pointer (Az w.heap.size),undef,SN,.slice a3 n3 O,.func (.func 286) #[] #[.pointer (Az E)],.slice a3 n3 O,undef,undef,undef,undef,undef],defers:=[] } ?assign ?body
  case assign =>
   intro K M;gi_wp2
   exact M
  case body =>
   rw [hR];have c0:=g.cell;have J:=g.lt;generalize hWb:W.putObj (w.heap.size+1+1) (.loop (R .busy))=Wb at *;clear hR N h0 hWb;have z:=Qj h (Qb (o:=.cells #[.slice a3 n3 O] 22) (Qe Wb));gi_wp2_with (gi_at_builtin;refine wpListIn_append_own_at _ rfl (.tmp 8) (.tmp 10) 288 rfl w.heap.size 22 iV SN 1 24 Tryz.underlying288 L.out.1 L.out.2.1 L.out.2.2.1 L.out.2.2.2 rfl ψ (.slice B f.length c8) f.length (valsOf f) rfl z ⟨Wb.heap.size,0,none⟩ 1 1 [.slice a3 n3 O] rfl rfl (cell_oneV _ _ _) (by intro u hu;simp at hu;subst hu;rfl) Ξ γ ω ?grow)
   case grow =>
    intro v' w1 y j _ D;have hf:=HF.out w1 v' _ y j (D.imp id (fun e=>by rw [World.size_alloc];exact e));obtain ⟨Q,c9,rfl⟩:=ownsRow_succ y;have m:=(g.alloc _).kept j (g.not_row ψ h);have c1:=m.cell;have f1:=m.frozen;have z1:=m.lt;clear y j D g m h z c0 J;gi_wp2
 rintro e V ⟨⟨u,rfl⟩,f,X,_,mb,i,_⟩;refine ⟨⟨u,rfl⟩,i.l, ?_⟩;obtain ⟨v,r1,r2,r3⟩:=i.row;have g:=r1.kept (grownBy_putObj' V (w.heap.size+1+1) (.loop (R .exhausted))) (by simpa using p.1);have h:=ownsRow_putObj r2 (.loop (R .exhausted)) i.l rfl;have M:(V.putObj (w.heap.size+1+1) (.loop (R .exhausted))).heap[w.heap.size+1]?=some (.deferred (some [])):=(put_other p.2.1).trans i.d;have T:Bl w (V.putObj (w.heap.size+1+1) (.loop (R .exhausted))):=i.b.grown (grownBy_putObj' V _ _) i.b.size (fun r e=>by cases e;exact C.2);have HP:=Hd X
 obtain ⟨B,c8,rfl⟩:∃ B c8,v=.slice B f.length c8:=by
  rcases r2.2 with ⟨rfl,A⟩ | ⟨Q,s,G,rfl,_⟩
  ·exact ⟨none,0,by rw [A]⟩
  ·exact ⟨_,s,rfl⟩
 clear r1 r2 r3 i h0 hR X;generalize V.putObj (w.heap.size+1+1) (.loop (R .exhausted))=V1 at *;have c0:=g.cell;have J:=g.lt;gi_wp2
 refine ⟨ξ,.inl ⟨_,_,rfl,run_takeDeferred M, ?_⟩⟩;exact ⟨.slice B f.length c8,by simp [results,Tryz.results308,go_sem],.slice B f.length c8,rfl,f,HP.out,ownsRow_putObj h _ M rfl,T.grown (grownBy_putObj' V1 _ _) T.size (fun r e=>by cases e;omega)⟩
theorem Gath.slice {w':World} {ls:List (T3×Value×Nat)} (h:Gath w w' ls v):∃ a n q,v=.slice a n q:=by
 obtain ⟨b,_,hr,_⟩:=h;rcases hr.2 with ⟨rfl,_⟩ | ⟨_,_,_,rfl,_⟩
 ·exact ⟨_,_,_,rfl⟩
 ·exact ⟨_,_,_,rfl⟩
theorem collect_any (f g c:Nat) (ls:List (T3×Value×Nat)) (h:TGood ls c) (d:∀ x∈ls,∃ a n q,x.2.1=.slice a n q) (b:ls.length≤300) (w:World) (i:At w f 0 (.map (some g))) (j:TEM w g ls c) :
  Cl 284 #[.func (.func 286) #[] #[.pointer (Az f)]] w fun e w'=>∃ v,e=.returned v∧Gath w w' ls v:=by
 have k:=Hd (appendSeq_any f g c ls h d b w i j);clear h d i j;go_enter Tryz.func284,Tryz.ntmps284;go_wp2_with (go_at_call 308;refine k.out.mono ?_;rintro e w1 ⟨v,rfl,hg⟩;obtain ⟨m,n8,c8,rfl⟩:=hg.slice)
 have l:=Hd hg;clear hg;go_ret;exact ⟨_,rfl,l.out⟩
theorem values_any (a:Nat) (w:World):Cl 263 #[.map (some a)] w fun e w'=>e=.returned (.func (.func 286) #[] #[.pointer (Az w.heap.size)])∧w'=w.alloc (.cells #[.map (some a)] 336):=by
 go_enter Tryz.func263,Tryz.ntmps263;go_wp2;go_ret;exact ⟨rfl,rfl⟩
end Go.Proofs.YtnpboeodhpenmaaGreatDoor
namespace Go.Proofs
open Go.Shelf
def Tryz.sortRows_ren:Go.Shelf.Ren:=⟨fun | 6=>285 | 15=>108 | 14=>309 | 28=>208 | 29=>209 | 20=>329 | 21=>330 | 22=>331 | 23=>332 | 24=>333 | 25=>334 | 26=>335 | 27=>336 | 46=>346 | 47=>258 | 48=>259 | 49=>347 | 50=>348 | 57=>352 | n=>n,fun | 22=>288 | 24=>22 | 25=>341 | 3=>3 | 39=>195 | 0=>0 | 53=>284 | 55=>286 | 4=>4 | 46=>278 | 45=>277 | 50=>153 | 5=>5 | 9=>9 | 66=>330 | 70=>334 | 76=>358 | 77=>232 | n=>n,fun | n=>n⟩
theorem Tryz.sortRows:Go.Proofs.SlLaysF.n6 Tryz.prog Tryz.sortRows_ren:={
 mixed:=by kernel_rfl
 f6:=⟨Tryz.f285.name,by decide,Tryz.func285.trans (congrArg some (by kernel_rfl))⟩
 f14:=⟨Tryz.f309.name,by decide,Tryz.func309.trans (congrArg some (by kernel_rfl))⟩
 f15:=Tryz.func108.trans (congrArg some (by kernel_rfl))
 f20:=⟨Tryz.f329.name,by decide,Tryz.func329.trans (congrArg some (by kernel_rfl))⟩
 f21:=⟨Tryz.f330.name,by decide,Tryz.func330.trans (congrArg some (by kernel_rfl))⟩
 f22:=⟨Tryz.f331.name,by decide,Tryz.func331.trans (congrArg some (by kernel_rfl))⟩
 f23:=⟨Tryz.f332.name,by decide,Tryz.func332.trans (congrArg some (by kernel_rfl))⟩
 f24:=⟨Tryz.f333.name,by decide,Tryz.func333.trans (congrArg some (by kernel_rfl))⟩
 f25:=⟨Tryz.f334.name,by decide,Tryz.func334.trans (congrArg some (by kernel_rfl))⟩
 f26:=⟨Tryz.f335.name,by decide,Tryz.func335.trans (congrArg some (by kernel_rfl))⟩
 f27:=⟨Tryz.f336.name,by decide,Tryz.func336.trans (congrArg some (by kernel_rfl))⟩
 f28:=Tryz.func208.trans (congrArg some (by kernel_rfl))
 f29:=Tryz.func209.trans (congrArg some (by kernel_rfl))
 f46:=⟨Tryz.f346.name,by decide,Tryz.func346.trans (congrArg some (by kernel_rfl))⟩
 f47:=Tryz.func258.trans (congrArg some (by kernel_rfl))
 f48:=Tryz.func259.trans (congrArg some (by kernel_rfl))
 f49:=⟨Tryz.f347.name,by decide,Tryz.func347.trans (congrArg some (by kernel_rfl))⟩
 f50:=⟨Tryz.f348.name,by decide,Tryz.func348.trans (congrArg some (by kernel_rfl))⟩
 f57:=⟨Tryz.f352.name,by decide,Tryz.func352.trans (congrArg some (by kernel_rfl))⟩
 t0:=Tryz.underlying0
 a0:=Tryz.isAgg0
 z0:=Tryz.sizeOf0
 v0:=Tryz.zeroValue0
 t3:=Tryz.underlying3
 a3:=Tryz.isAgg3
 z3:=Tryz.sizeOf3
 v3:=Tryz.zeroValue3
 t4:=Tryz.underlying4
 a4:=Tryz.isAgg4
 z4:=Tryz.sizeOf4
 v4:=Tryz.zeroValue4
 t5:=Tryz.underlying5
 a5:=Tryz.isAgg5
 z5:=Tryz.sizeOf5
 v5:=Tryz.zeroValue5
 t9:=Tryz.underlying9
 a9:=Tryz.isAgg9
 z9:=Tryz.sizeOf9
 v9:=Tryz.zeroValue9
 t22:=Tryz.underlying288
 a22:=Tryz.isAgg288
 z22:=Tryz.sizeOf288
 v22:=Tryz.zeroValue288
 a24:=Tryz.isAgg22
 z24:=Tryz.sizeOf22
 t25:=Tryz.underlying341
 a25:=Tryz.isAgg341
 z25:=Tryz.sizeOf341
 v25:=Tryz.zeroValue341
 t39:=Tryz.underlying195
 a39:=Tryz.isAgg195
 z39:=Tryz.sizeOf195
 v39:=Tryz.zeroValue195
 t45:=Tryz.underlying277
 a45:=Tryz.isAgg277
 z45:=Tryz.sizeOf277
 v45:=Tryz.zeroValue277
 t46:=Tryz.underlying278
 a46:=Tryz.isAgg278
 z46:=Tryz.sizeOf278
 v46:=Tryz.zeroValue278
 t50:=Tryz.underlying153
 a50:=Tryz.isAgg153
 z50:=Tryz.sizeOf153
 v50:=Tryz.zeroValue153
 t53:=Tryz.underlying284
 a53:=Tryz.isAgg284
 z53:=Tryz.sizeOf284
 v53:=Tryz.zeroValue284
 t55:=Tryz.underlying286
 a55:=Tryz.isAgg286
 z55:=Tryz.sizeOf286
 v55:=Tryz.zeroValue286
 t66:=Tryz.underlying330
 a66:=Tryz.isAgg330
 z66:=Tryz.sizeOf330
 v66:=Tryz.zeroValue330
 t70:=Tryz.underlying334
 a70:=Tryz.isAgg334
 z70:=Tryz.sizeOf334
 v70:=Tryz.zeroValue334
 t76:=Tryz.underlying358
 a76:=Tryz.isAgg358
 z76:=Tryz.sizeOf358
 v76:=Tryz.zeroValue358
 t77:=Tryz.underlying232
 a77:=Tryz.isAgg232
 z77:=Tryz.sizeOf232
 v77:=Tryz.zeroValue232 }
end Go.Proofs
namespace Go.Proofs.YtnpboeodhpenmaaGreatDoor
open Go.RowKit Go.Shelf Go.Lib
open Go.Sort hiding Below
theorem Qbr (s t:T3):cmpT s.1 s.2.1 s.2.2 t.1 t.2.1 t.2.2<0↔ltT s t:=by
 unfold cmpT or2 cmp3 ltT;repeat' split
 all_goals omega
def RowAt (w:World) (gp n:Nat) (x:(T3×Value×Nat)):Prop := ∃ (g m c i:Nat),x.2.1=.slice (Az g) m c∧0<m∧At w g 0 (I (i:Int))∧i<n∧At3 w gp (i*3) x.1
theorem Uk {α:Type} [Inhabited α] {w:World} {g m:Nat} {os:Array Obj} (enc : α→Value) (d:Array α):w.grownBy (sortWorld enc w g 0 m d os) (some g):=by
 refine ⟨rfl,rfl,rfl, ?_,fun k b a=>?_⟩
 ·simp [sortWorld,grow,putRow,mapBlock,Sort.ahead]
 ·unfold sortWorld;rw [heap_grow_old _ _ (by simpa [putRow,mapBlock,Sort.ahead] using b)];have:g≠k:=fun e=>a (by rw [e]);simp [putRow,mapBlock,Sort.ahead,Array.getElem?_modify,this]
theorem sortRows_any (w:World) (base g c q B n Y:Nat) (a:List (T3×Value×Nat)) (l:w.ownsRow base 22 1 (.slice (some ⟨g,0,none⟩) a.length c) a.length (valsOf a)) (h0:a≠[]) (hz:a.length≤300)
  (hp:w.cell? ⟨q,4,none⟩=some (.slice (some ⟨B,0,none⟩) n Y)) (J:∀ x∈a,RowAt w B n x) (hb:q<base∧B<base) (hg:∀ x∈a,x.2.1.ownBlock≠some g) :
  Cl 285 #[.slice (some ⟨g,0,none⟩) a.length c,.func (.func 264) #[] #[.pointer (some ⟨q,0,none⟩)]] w fun e w'=>e=.returned (.tuple #[])∧∃ vis':List (T3×Value×Nat),vis'.Perm a∧vis'.Pairwise (fun x y=>¬ ltT y.1 x.1)∧(∀ i (hi:i<vis'.length),w'.cell? ⟨g,i,none⟩=some vis'[i].2.1)∧w.grownBy w' (some g):=by
 obtain ⟨x0,O⟩:=List.exists_mem_of_ne_nil a h0;letI:Inhabited {x // x∈a}:=⟨⟨x0,O⟩⟩
 have C:=l.lt g rfl
 have A:OneCell (fun x:{x // x∈a}=>x.val.2.1):=fun x=>by
  obtain ⟨G,m,T,i,e,_⟩:=J x.val x.property;show (x.val.2.1).oneCell'=true
  (try simp only [At,I,Fn,Az,Ad]);rw [e]
  rfl
 have K:SWO (ltOf (fun x y:{x // x∈a}=>cmpT x.val.1.1 x.val.1.2.1 x.val.1.2.2 y.val.1.1 y.val.1.2.1 y.val.1.2.2)):={
  irrefl:=fun x=>by
   unfold ltOf;(try simp only);rw [decide_eq_false_iff_not,Qbr]
   exact Jr _
  trans:=fun x y z h1 h2=>by
   unfold ltOf at *;(try simp only at *);rw [decide_eq_true_eq,Qbr] at *
   exact Xq _ _ _ h1 h2
  ntrans:=fun x y z h1 h2=>by
   unfold ltOf at *;(try simp only at *);rw [decide_eq_false_iff_not,Qbr] at *
   unfold ltT at *;omega }
 have X:Holds (fun x:{x // x∈a}=>x.val.2.1) w g 0 a.attach.toArray:=fun j D=>by
  have r:j<a.length:=by simpa using D
  refine ⟨?_, ?_⟩
  ·have hc:=l.cellAt j γ;(try simp only);rw [Nat.zero_add,hc]
   (try simp only [At,I,Fn,Az,Ad]);rw [getElem!_pos _ j D]
   simp [valsOf,r]
  ·rcases l.2 with ⟨h1,_⟩ | ⟨g',Z,a2,h1,_,h3,_⟩
   ·cases h1
   ·cases h1;simp [World.frozen?,h3]
 have s:CmpLays1 Tryz.prog 264 #[.pointer (some ⟨q,0,none⟩)] (fun x:{x // x∈a}=>x.val.2.1) (fun x y=>cmpT x.val.1.1 x.val.1.2.1 x.val.1.2.2 y.val.1.1 y.val.1.2.1 y.val.1.2.2) g 0 a.attach.toArray.size w:=fun m os F _ x y=>by
  have L:=Uk (w:=w) (g:=g) (m:=m) (os:=os) (fun x:{x // x∈a}=>x.val.2.1) F;have d:∀ b o v,w.cell? ⟨b,o,none⟩=some v→b≠g→(sortWorld (fun x:{x // x∈a}=>x.val.2.1) w g 0 m F os).cell? ⟨b,o,none⟩=some v:=fun b o v h N=>L.cell h (by simpa using N);obtain ⟨G,ma,T,i,U,q1,q2,q3,Q⟩:=J x.val x.property;obtain ⟨W,mb,cb,j,V,r1,r2,r3,R⟩:=J y.val y.property;have na:G≠g:=fun e=>hg x.val x.property (by (try simp only [At,I,Fn,Az,Ad]);rw [U,e];rfl);have nb:W≠g:=fun e=>hg y.val y.property (by (try simp only [At,I,Fn,Az,Ad]);rw [V,e];rfl);have u:B≠g:=γ;have P:q≠g:=γ;have:=piledCmp_gd (sortWorld (fun x:{x // x∈a}=>x.val.2.1) w g 0 m F os) q B n Y G ma T W mb cb i j x.val.1 y.val.1 (d _ _ _ hp P) q1 r1 (d _ _ _ q2 na) (d _ _ _ r2 nb) q3 r3 ⟨d _ _ _ Q.1 u,d _ _ _ Q.2.1 u,d _ _ _ Q.2.2 u⟩ ⟨d _ _ _ R.1 u,d _ _ _ R.2.1 u,d _ _ _ R.2.2 u⟩;show Cl 264 #[x.val.2.1,y.val.2.1,.pointer (some ⟨q,0,none⟩)] _ _
  (try simp only);rw [U,V]
  exact this
 have f:=Any.slices_SortFunc Tryz.sortRows (fun x:{x // x∈a}=>x.val.2.1) A (fun x y=>cmpT x.val.1.1 x.val.1.2.1 x.val.1.2.2 y.val.1.1 y.val.1.2.1 y.val.1.2.2) K 264 #[.pointer (some ⟨q,0,none⟩)] g 0 c a.attach.toArray w (enters_of Tryz.func264 η rfl) s X C.2 ω;change Cl 285 _ _ _ at f
 (try simp only [At,I,Fn,Az,Ad] at f);rw [show a.attach.toArray.size=a.length by simp] at f
 refine f.mono ?_;rintro e w' ⟨rfl,k,m,os,E,hs,rfl⟩;have t:k.size=a.length:=by simpa using E.1
 refine ⟨rfl,k.toList.map (fun x=>x.val), ?_, ?_, ?_,Uk _ k⟩
 ·have h3:=E.2.2
  have e1:(k.extract 0 a.length).toList=k.toList:=by
   (try simp only [At,I,Fn,Az,Ad]);rw [← t]
   simp
  have e2:(a.attach.toArray.extract 0 a.length).toList=a.attach:=by
   simp;exact List.take_of_length_le ξ
  (try simp only [At,I,Fn,Az,Ad] at h3);rw [e1,e2] at h3
  have h4:=h3.map (fun x=>x.val);(try simp only [At,I,Fn,Az,Ad] at h4);rw [List.attach_map_subtype_val] at h4
  exact h4
 ·(try simp only [At,I,Fn,Az,Ad]);rw [List.pairwise_map,List.pairwise_iff_getElem]
  intro i j hi D M;have:=hs i j (Nat.zero_le _) M (by simpa [t] using D);have p:i<k.size:=by simpa using hi
  have r:j<k.size:=by simpa using D
  (try simp only [At,I,Fn,Az,Ad] at this);rw [getElem!_pos k i p,getElem!_pos k j r] at this
  unfold ltOf at this;(try simp only at this);rw [decide_eq_false_iff_not,Qbr] at this
  simpa using this
 ·intro i hi;have p:i<k.size:=by simpa using hi
  have H:=(holds_sortWorld _ w g 0 m a.attach.toArray k os C.2 X (by simpa using t) i p).1;(try simp only [At,I,Fn,Az,Ad] at H);rw [Nat.zero_add] at H
  (try simp only [At,I,Fn,Az,Ad]);rw [H,getElem!_pos k i p]
  simp
end Go.Proofs.YtnpboeodhpenmaaGreatDoor
namespace Go.Proofs.YtnpboeodhpenmaaGreatDoor
open Go.RowKit Go.Shelf Go.ChangeMaps
variable {w:World} {n:Nat}
theorem RowAt.kept {w':World} {b:Nat} {x:(T3×Value×Nat)} (h:RowAt w b n x) (a:Bl w w'):RowAt w' b n x:=by
 obtain ⟨g,m,c,i,h1,h2,h3,h4,h5⟩:=h;exact ⟨g,m,c,i,h1,h2,Qa a h3,h4,Qa a h5.1,Qa a h5.2.1,Qa a h5.2.2⟩
theorem own_slice {base e:Nat} {v:Value} {c:List Value} (h:w.ownsRow base e 1 v n c) (d:0<n):∃ g q,v=.slice (Az g) n q:=by
 rcases h.2 with ⟨_,h0⟩ | ⟨g,a,b,hv,_⟩
 ·omega
 ·exact ⟨g,a,hv⟩
def SRows (w w':World) (ls:List (T3×Value×Nat)) (e:Ending):Prop := ∃ (g c:Nat) (vis:List (T3×Value×Nat)),e=.returned (.slice (Az g) vis.length c)∧vis.Perm ls∧vis.Pairwise (fun x y=>¬ ltT y.1 x.1)∧(∀ i (hi:i<vis.length),At w' g i vis[i].2.1)∧w.heap.size≤g∧Bl w w'
theorem sortedRows_any (w:World) (A C c z t n G:Nat) (ls:List (T3×Value×Nat)) (D:TGood ls c) (h0:ls≠[]) (j:ls.length≤300) (E:At w A 0 (.map (some C))) (F:TEM w C ls c) (hp:At w z 4 (.slice (Az t) n G)) (B:t<w.heap.size) (u:∀ x∈ls,RowAt w t n x) :
  Cl 262 #[.func (.func 286) #[] #[.pointer (Az A)],.func (.func 264) #[] #[.pointer (Az z)]] w fun e w'=>SRows w w' ls e:=by
 have p:∀ x∈ls,∃ a n q,x.2.1=.slice a n q:=fun x s=>by
  obtain ⟨g,m,c,i,h1,_⟩:=u x s;exact ⟨_,_,_,h1⟩
 have J:=Hd (collect_any A C c ls D p j w E F);have N:=Bt hp
 have L:Hid (∀ (w1:World) (g q:Nat) (b:List (T3×Value×Nat)),b.Perm ls→w1.ownsRow w.heap.size 22 1 (.slice (Az g) b.length q) b.length (valsOf b)→Bl w w1→Cl 285 #[.slice (Az g) b.length q,.func (.func 264) #[] #[.pointer (Az z)]] w1 fun e w'=>e=.returned (.tuple #[])∧∃ d:List (T3×Value×Nat),d.Perm b∧d.Pairwise (fun x y=>¬ ltT y.1 x.1)∧(∀ i (hi:i<d.length),At w' g i d[i].2.1)∧w1.grownBy w' (some g)):=fun w1 g q b f h o=>by
  refine sortRows_any w1 w.heap.size g q z t n G b h (fun e=>h0 (by rw [e] at f;exact f.symm.eq_nil)) (by rw [f.length_eq];exact j) (Qa o hp) (fun x s=>(u x (f.mem_iff.1 s)).kept o) ⟨N,B⟩ (fun x s e=>?_);obtain ⟨g3,P,c3,O,h1,_,h3,_⟩:=u x (f.mem_iff.1 s);rw [h1] at e;simp only [Value.ownBlock,Option.some.injEq] at e;have z3:=Bt h3;have z4:=(h.lt g rfl).1;omega
 have K:=Hd h0;clear D E F hp u p h0;go_enter Tryz.func262,Tryz.ntmps262;go_wp2_with (first | (go_at_call 284;refine J.out.mono ?_;rintro e w1 ⟨v,rfl,b,f,h,o⟩;obtain ⟨g,q,rfl⟩:∃ g q,v=.slice (Az g) b.length q:=(own_slice h (List.length_pos_iff.2 (fun e=>K.out (by rw [e] at f;exact f.symm.eq_nil))));have k:=H3 f h o;clear f h o) | (go_at_call 285;refine (L.out _ _ _ _ k.out.1 k.out.2.1 k.out.2.2).mono ?_;rintro e Q ⟨rfl,d,h1,h2,h3,h4⟩;have l:=H4 h1 h2 h3 h4;clear h1 h2 h3 h4))
 go_ret;have M:b.length=d.length:=l.out.1.length_eq.symm;have H:=(k.out.2.1.lt g rfl).1;exact ⟨g,q,d,by simp [M],l.out.1.trans k.out.1,l.out.2.1,l.out.2.2.1,H,k.out.2.2.grown l.out.2.2.2 k.out.2.2.size (fun r e=>by cases e;exact H)⟩
theorem Xa {P:Program} {f:Array Oper} {rest:List Oper} {o:Oper} {a:Act} {Q:Exit→Act→World→Prop} (j:o.guard=none) (s x:Operand) (t:TypeId)
  (p:o.op=.call { callee:=.builtin .append,args:=#[s,x],argTypes:=#[t,t] })
  (e:TypeId) (i:TypeInfo) (q:P.underlying t=some (.slice e)) (hi:P.info? e=some i) (g n b:Nat) (m:n≤b) (k:Option Addr) (c:Nat)
  (hs:a.eval s=.slice (Az g) n b) (r:a.eval x=.slice k 0 c)
  (h:wpList P f Q rest (a.put o.dst (.slice (Az g) n b)) w):wpList P f Q (o :: rest) a w:=by
 refine wpList_plain j fun K l=>?_;have d:=Zx (P:=P) w t o.type e i q hi g n b m k c;unfold Oper.wp;simp [execOp,p,resolve,invoke,builtin,hs,r,d,Result.andThen];exact l _ _ h
theorem Qbl {base base' e k:Nat} {v:Value} {d:List Value} (h:w.ownsRow base e k v n d) (f:base'≤base):w.ownsRow base' e k v n d:=by
 obtain ⟨c,h0 | ⟨g,a,b,hv,h1,h2⟩⟩:=h
 ·exact ⟨c,Or.inl h0⟩
 ·exact ⟨c,Or.inr ⟨g,a,b,hv,Nt f h1,h2⟩⟩
def Bx5 (w:World) (b:Nat) (x0 x1 x2 x3 xk:Int):Prop:=At w b 0 (I x0)∧At w b 1 (I x1)∧At w b 2 (I x2)∧At w b 3 (I x3)∧At w b 4 (I xk)
theorem Bx5.kept {w':World} {b:Nat} {c x1 x2 x3 d:Int} (h:Bx5 w b c x1 x2 x3 d) (a:Bl w w'):Bx5 w' b c x1 x2 x3 d:=⟨Qa a h.1,Qa a h.2.1,Qa a h.2.2.1,Qa a h.2.2.2.1,Qa a h.2.2.2.2⟩
theorem cell_fiveC (w:World) (T:TypeId) (a b c d e:Int):∀ j u,([I a,I b,I c,I d,I e])[j]?=some u→(w.alloc (.cells #[I a,I b,I c,I d,I e] T)).cell? ((⟨w.heap.size,0,none⟩:Addr).add j)=some u:=Um w T a b c d e
theorem Ko (w:World) (base c:Nat) (a:Option Addr) (A:List C5) (d x1 x2 x3 f:Int) (hO:w.ownsRow base 44 5 (.slice a A.length c) A.length (flatJ A)) (hb:base≤w.heap.size) (hl:A.length≤1000000) :
  Cl 58 #[.slice a A.length c,.agg #[I d,I x1,I x2,I x3,I f]] w fun e w'=>∃ v,e=.returned v∧w'.ownsRow base 44 5 v (insC A ((d,x1,x2,x3),f)).length (flatJ (insC A ((d,x1,x2,x3),f)))∧Bl w w':=by
 obtain ⟨a',c',ev,hc,hJ⟩:=Zz hO;simp only [Value.slice.injEq] at ev;obtain ⟨rfl,_,rfl⟩:=ev;have HA:Hid (w.ownsRow base 44 5 (.slice a A.length c) A.length (flatJ A)∧JRow w a A∧A.length=A.length∧base≤w.heap.size):=⟨hO,hJ,rfl,hb⟩;have bc:A.length≤c:=hc;obtain ⟨p,hi,ap,aq,ar⟩:=info_parts inf44;have n:=H4 hi ap aq ar;clear hO hJ hb hi ap aq ar hc;have he:=eql27;have P:=eql44;have bf:¬ ((c:Int)<(A.length:Int)):=γ;go_enter Tryz.func58,Tryz.ntmps58;go_upto_region 1 with fail
 refine Qi (fun W0 hW0=>?_);obtain ⟨B,hB⟩:∃ B,B=w.heap.size:=⟨_,rfl⟩
 have H0:Hid (Bx5 W0 B d x1 x2 x3 f∧Bl w W0):=by
  rw [hB,hW0];exact ⟨by simp [Bx5,go_sem],Qb (Qe _)⟩
 rw [← hB];clear hW0 hB;go_wp2;go_loopg [5] (A.length+1) (fun gk s5 t=>∃ k:Nat,k≤A.length∧gk=A.length+1 - k∧s5=I (k:Int)∧(∀ j (h:j<A.length),j<k→ltC A[j] ((d,x1,x2,x3),f)=true)∧Bx5 t B d x1 x2 x3 f∧Bl w t)
 case atStart=>exact ⟨0,γ,rfl,rfl,fun j h h0=>by omega,H0.out.1,H0.out.2⟩
 case round =>
  clear H0;obtain ⟨k,hk,rfl,rfl,R,ak,hB⟩:=hrel;have HK:=H3 R ak hB;obtain ⟨b0,b1,b2,b3,b4⟩:=ak;have zb:=Bt b0;clear R hB
  obtain ⟨F,H⟩:∃ F:Bool,Hid (F=true↔∃ h:k<A.length,ltC A[k] ((d,x1,x2,x3),f)=true):=by
   by_cases q:∃ h:k<A.length,ltC A[k] ((d,x1,x2,x3),f)=true
   ·exact ⟨true,⟨fun _=>q,fun _=>rfl⟩⟩
   ·exact ⟨false,⟨(fun h=>by cases h),fun h=>absurd h q⟩⟩
  go_upto_region 2 with fail
  go_cut [40] (fun b9 t=>b9=.bool F∧Bl wr t)
  case first =>
   by_cases h1:k<A.length
   ·have i1:(k:Int)<(A.length:Int):=γ;have i0:(0:Int)≤(k:Int):=γ;have Q:k<A.length:=h1;obtain ⟨g,ea,t0,t1,t2,t3,t4⟩:=(HA.out.2.1.kept HK.out.2.2) k Q;subst ea;obtain ⟨y,y1,y2,y3,U,T⟩:∃ y y1 y2 y3 U,A[k]=((y,y1,y2,y3),U):=⟨_,_,_,_,_,rfl⟩;rw [T] at t0 t1 t2 t3 t4;dsimp only at t0 t1 t2 t3 t4;have zg:=Bt t0;obtain ⟨le,ac⟩:∃ b,b=lessE y y1 y2 y3 d x1 x2 x3:=⟨_,rfl⟩;obtain ⟨sm,ad⟩:∃ b,b=sameB y y1 y2 y3 d x1 x2 x3:=⟨_,rfl⟩
    have L:Hid (F=(le || (sm && decide (U<f)))):=by
     show F=_
     have h2:F=true↔(le || (sm && decide (U<f)))=true:=by
      rw [H.out,ac,ad];constructor
      ·rintro ⟨h,q⟩;rw [T] at q;exact q
      ·intro q;refine ⟨Q, ?_⟩;rw [T];exact q
     exact Bool.eq_iff_iff.2 h2
    have CL:Hid (∀ V:World,Rt 120 #[.agg #[I y,I y1,I y2,I y3],.agg #[I d,I x1,I x2,I x3]] V (.bool le)):=fun V=>by
     rw [ac];exact Js y y1 y2 y3 d x1 x2 x3 V
    have am:=he y y1 y2 y3 d x1 x2 x3;rw [← ad] at am;clear ac ad T he P
    cases le
    ·cases sm
     ·obtain ⟨E,s⟩:=kcn wr;refine wk ?_;repeat (go_big_quiet_step ((go_at_call 120;exact Qf (CL.out _))))
      refine kq1 (fun G hq=>?_);clear E s;go_wp2;go_meet
      case rel=>exact ⟨by rw [L.out];rfl,hq⟩
     ·obtain ⟨E,s⟩:=kcn wr;refine wk ?_;repeat (go_big_quiet_step ((go_at_call 120;exact Qf (CL.out _))))
      refine kq1 (fun G hq=>?_);clear E s;go_wp2;go_meet
      case rel=>exact ⟨by rw [L.out];simp,hq⟩
    ·obtain ⟨E,s⟩:=kcn wr;refine wk ?_;repeat (go_big_quiet_step ((go_at_call 120;exact Qf (CL.out _))))
     refine kq1 (fun G hq=>?_);clear E s;go_wp2;go_meet
     case rel=>exact ⟨by rw [L.out];rfl,hq⟩
   ·have i1:¬ (k:Int)<(A.length:Int):=γ;have i2:¬ k<A.length:=γ
    have L:Hid (F=false):=by
     show F=false
     cases q:F
     ·rfl
     ·obtain ⟨h,_⟩:=H.out.1 q;have:=HA.out.2.2.1;omega
    obtain ⟨E,s⟩:=kcn wr;refine wk ?_;repeat (go_big_quiet_step (fail))
    refine kq1 (fun G hq=>?_);clear E s;go_wp2;go_meet
    case rel=>exact ⟨by rw [L.out],hq⟩
  case rest =>
   obtain ⟨rfl,a6⟩:=hcut;clear b0 b1 b2 b3 b4 zb;have HC:=H2 (HK.out.2.1.kept a6) (Qc HK.out.2.2 a6);clear a6
   cases F
   ·have aw:Hid (∀ h:k<A.length,ltC A[k] ((d,x1,x2,x3),f)=false):=fun h=>by
     cases q:ltC A[k] ((d,x1,x2,x3),f)
     ·rfl
     ·exact absurd (H.out.2 ⟨h,q⟩) ξ
    obtain ⟨M,J⟩:∃ M:Bool,Hid (M=true↔∃ h:k<A.length,A[k]=((d,x1,x2,x3),f)):=by
     by_cases q:∃ h:k<A.length,A[k]=((d,x1,x2,x3),f)
     ·exact ⟨true,⟨fun _=>q,fun _=>rfl⟩⟩
     ·exact ⟨false,⟨(fun h=>by cases h),fun h=>absurd h q⟩⟩
    have W:=Hd (insC_at ((d,x1,x2,x3),f) A k hk HK.out.1 aw.out);obtain ⟨b0,b1,b2,b3,b4⟩:=HC.out.1;have zb:=Bt b0;obtain ⟨wC,b5⟩:∃ x,x=wc:=⟨_,rfl⟩;subst b5;go_upto_region 4 with fail
    go_cut [54] (fun ba t=>ba=.bool M∧Bl wC t)
    case first =>
     by_cases h1:k<A.length
     ·have i1:(k:Int)<(A.length:Int):=γ;have i0:(0:Int)≤(k:Int):=γ;obtain ⟨g,ea,t0,t1,t2,t3,t4⟩:=(HA.out.2.1.kept HC.out.2) k h1;subst ea;obtain ⟨y,y1,y2,y3,U,T⟩:∃ y y1 y2 y3 U,A[k]=((y,y1,y2,y3),U):=⟨_,_,_,_,_,rfl⟩
      have L:Hid (M=(sameB y y1 y2 y3 d x1 x2 x3 && decide (U=f))):=by
       show M=_
       refine Bool.eq_iff_iff.2 ?_;rw [J.out];simp only [sameB,Bool.and_eq_true,decide_eq_true_eq];constructor
       ·rintro ⟨h,q⟩;rw [T] at q;simp only [Prod.mk.injEq] at q;omega
       ·intro q;refine ⟨h1, ?_⟩;rw [T];simp only [Prod.mk.injEq];omega
      rw [T] at t0 t1 t2 t3 t4;dsimp only at t0 t1 t2 t3 t4;have zg:=Bt t0;have am:=P y y1 y2 y3 U d x1 x2 x3 f;clear T he P;obtain ⟨E,s⟩:=kcn wC;refine wk ?_;repeat (go_big_quiet_step (fail))
      refine kq1 (fun G hq=>?_);clear E s;go_wp2;go_meet
      case rel=>exact ⟨by rw [L.out],hq⟩
     ·have i2:¬ k<A.length:=h1
      have L:Hid (M=false):=by
       show M=false
       cases q:M
       ·rfl
       ·obtain ⟨h,_⟩:=J.out.1 q;omega
      obtain ⟨E,s⟩:=kcn wC;refine wk ?_;repeat (go_big_quiet_step (fail))
      refine kq1 (fun G hq=>?_);clear E s;go_wp2;go_meet
      case rel=>exact ⟨by rw [L.out],hq⟩
    case rest =>
     obtain ⟨rfl,a7⟩:=hcut;clear b0 b1 b2 b3 b4 zb;have Z:=H2 (HC.out.1.kept a7) (Qc HC.out.2 a7);clear a7
     cases M
     ·have K:Hid (insC A ((d,x1,x2,x3),f)=A.take k ++ [((d,x1,x2,x3),f)] ++ A.drop k):=by
       show insC A ((d,x1,x2,x3),f)=_
       rw [W.out,if_neg (fun q=>absurd (J.out.2 q) ξ)]
      obtain ⟨r,b6⟩:∃ x,x=wc:=⟨_,rfl⟩;subst b6;have HE:=H2 (HA.out.2.1.kept Z.out.2) (Nt HA.out.2.2.2 Z.out.2.size);have bj:(k:Int)≤(c:Int):=γ;have k0:(0:Int)≤(k:Int):=γ;have bi:k≤c:=γ;clear he P;go_upto_region 7 with fail
      go_cut [6] (fun s6 t=>∃ v6:Value,v6=s6∧t.ownsRow r.heap.size 44 5 v6 k (flatJ (A.take k))∧Bl r t)
      case first =>
       by_cases hk0:0<k
       ·obtain ⟨gu,eu,_⟩:=HE.out.1 0 γ;subst eu;go_wp2_with (at_builtin;refine wpList_append_grows _ rfl (.tmp 56) (.tmp 59) 32 rfl 44 p (.agg #[I 0,I 0,I 0,I 0,I 0]) 5 40 Tryz.underlying32 n.out.1 n.out.2.1 n.out.2.2.1 n.out.2.2.2 rfl ψ none 0 0 [] rfl (fun _=>⟨rfl,rfl⟩) rfl (by intro _ h;simp at h) ⟨gu,0,none⟩ k c (flatJ (A.take k)) rfl (by rw [Xn,List.length_take,Nat.min_eq_left hk]) (fun j u hu=>by rw [addr_addC,Nat.zero_add];exact jrow_take HE.out.1 k j u hu) (Vj _) γ Ξ γ ?_;intro v' w6 l i;rw [Nat.zero_add,List.nil_append] at l;have af:Hid (w6.ownsRow r.heap.size 44 5 v' k (flatJ (A.take k))∧Bl r w6):=⟨l,(Below.refl _ _).grown i (Nr _) (fun k h=>by cases h)⟩;clear l i)
        go_meet
        case rel=>exact ⟨_,rfl,af.out.1,af.out.2⟩
       ·obtain rfl:k=0:=γ;have ae:a=none∨∃ x,a=some x:=by cases a <;> simp
        rcases ae with rfl | ⟨x,rfl⟩
        ·go_wp2;go_meet
         case rel=>exact ⟨_,rfl,⟨by simp [flatJ],Or.inl ⟨rfl,rfl⟩⟩,φ⟩
        ·go_wp2;go_meet
         case rel=>exact ⟨_,rfl,⟨by simp [flatJ],Or.inl ⟨rfl,rfl⟩⟩,φ⟩
      case rest =>
       obtain ⟨v6,rfl,ah,N⟩:=hcut;obtain ⟨wF,b7⟩:∃ x,x=wc:=⟨_,rfl⟩;subst b7;have a2:=H2 ah N;have bh:=N.size;obtain ⟨b0,b1,b2,b3,b4⟩:=Z.out.1.kept N;have zb:=Bt b0;clear ah N;go_upto_region 8 with fail
       go_cut [6] (fun s6 t=>∃ C c8:Nat,s6=.slice (Az C) (k+1) c8∧t.ownsRow r.heap.size 44 5 (.slice (Az C) (k+1) c8) (k+1) (flatJ (A.take k ++ [((d,x1,x2,x3),f)]))∧Bl r t)
       case first =>
        go_wp2_with (at_builtin;refine wpList_append_lies _ rfl (.tmp 61) (.tmp 63) 32 rfl r.heap.size 44 p (.agg #[I 0,I 0,I 0,I 0,I 0]) 5 40 Tryz.underlying32 n.out.1 n.out.2.1 n.out.2.2.1 n.out.2.2.2 rfl ψ v6 k (flatJ (A.take k)) rfl (Qj a2.out.1 β1) ⟨wF.heap.size,0,none⟩ 1 1 [I d,I x1,I x2,I x3,I f] rfl rfl (cell_fiveC _ _ _ _ _ _ _) (Vj [((d,x1,x2,x3),f)]) ψ Ξ γ ω (wF.heap.size+1) ξ ?grow)
        case grow =>
         intro C c8 w8 D o ai an
         have m:Hid (w8.ownsRow r.heap.size 44 5 (.slice (Az C) (k+1) c8) (k+1) (flatJ (A.take k ++ [((d,x1,x2,x3),f)]))∧Bl r w8):=by
          refine ⟨by rw [Yg];exact D, ?_⟩;have aj:Bl r (wF.alloc (.cells #[I d,I x1,I x2,I x3,I f] 44)):=Qc a2.out.2 β1;exact aj.grown o aj.size (fun q e=>(a2.out.1.lt q e).1)
         clear D o ai an;go_wp2;go_meet
         case rel=>exact ⟨C,c8,rfl,m.out.1,m.out.2⟩
       case rest =>
        obtain ⟨C,c8,rfl,a8,O⟩:=hcut;obtain ⟨wG,b8⟩:∃ x,x=wc:=⟨_,rfl⟩;subst b8;have m:=H2 a8 O;have ag:=Hd (HE.out.1.kept O);have au:=O.size
        have aa:k+1≤c8:=by
         rcases a8.2 with ⟨e,_⟩ | ⟨_,_,_,e,_,_,h4,_⟩
         ·cases e
         ·cases e;exact h4
        clear a8 O b0 b1 b2 b3 b4 zb;by_cases hpu:k<A.length
        ·obtain ⟨gu,eu,_⟩:=ag.out 0 γ;subst eu;have ao:¬ c=k:=γ;have s:(k:Int)≤(A.length:Int):=γ;have bk:k≤A.length:=hk;go_wp2_with (at_builtin;refine wpList_append_lies _ rfl (.tmp 65) (.tmp 68) 32 rfl r.heap.size 44 p (.agg #[I 0,I 0,I 0,I 0,I 0]) 5 40 Tryz.underlying32 n.out.1 n.out.2.1 n.out.2.2.1 n.out.2.2.2 rfl ψ (.slice (Az C) (k+1) c8) (k+1) (flatJ (A.take k ++ [((d,x1,x2,x3),f)])) rfl m.out.1 ⟨gu,k*5,none⟩ (A.length - k) (c - k) (flatJ (A.drop k)) rfl (by rw [Xn,List.length_drop]) (fun j u hu=>by rw [addr_addC];exact jrow_drop ag.out k j u hu) (Vj _) γ Ξ γ au wG.heap.size rfl ?grow)
         case grow =>
          intro ax c10 av l i ay R;have X:Hid (av.ownsRow r.heap.size 44 5 (.slice (Az ax) (k+1+(A.length - k)) c10) (k+1+(A.length - k)) (flatJ (A.take k ++ [((d,x1,x2,x3),f)]) ++ flatJ (A.drop k))∧Bl r av):=⟨l,m.out.2.grown i (Nt au (Nr _)) (fun q e=>(m.out.1.lt q e).1)⟩;clear l i ay R;go_wp2;go_ret;refine ⟨_,rfl, ?_,Qc Z.out.2 X.out.2⟩;have h9:=X.out.1;rw [← Yg] at h9;rw [K.out]
          have ab:(A.take k ++ [((d,x1,x2,x3),f)] ++ A.drop k).length=k+1+(A.length - k):=by
           simp;omega
          rw [ab];exact Qbl h9 HE.out.2
        ·obtain rfl:k=A.length:=γ;have az:A.drop A.length=[]:=List.drop_eq_nil_of_le (Nr _)
         have z:Hid (∀ G:World,G=wG→G.ownsRow base 44 5 (.slice (Az C) (A.length+1) c8) (insC A ((d,x1,x2,x3),f)).length (flatJ (insC A ((d,x1,x2,x3),f)))∧Bl w G):=fun G e=>by
          subst e;rw [K.out,az,List.append_nil];have h9:=m.out.1;refine ⟨?_,Qc Z.out.2 m.out.2⟩;have ab:(A.take A.length ++ [((d,x1,x2,x3),f)]).length=A.length+1:=ξ;rw [ab];exact Qbl h9 HE.out.2
         have bg:A.length - A.length=0:=γ;have ae:a=none∨∃ x,a=some x:=by cases a <;> simp
         rcases ae with rfl | ⟨x,rfl⟩
         ·go_wp2_with (at_builtin;refine Xa rfl (.tmp 65) (.tmp 68) 32 rfl 44 p Tryz.underlying32 n.out.1 C (A.length+1) c8 aa _ _ rfl rfl ?_)
          go_ret;exact ⟨_,rfl,z.out _ rfl⟩
         ·by_cases ao:c=A.length
          ·go_wp2_with (at_builtin;refine Xa rfl (.tmp 65) (.tmp 68) 32 rfl 44 p Tryz.underlying32 n.out.1 C (A.length+1) c8 aa _ _ rfl rfl ?_)
           go_ret;exact ⟨_,rfl,z.out _ rfl⟩
          ·go_wp2_with (at_builtin;refine Xa rfl (.tmp 65) (.tmp 68) 32 rfl 44 p Tryz.underlying32 n.out.1 C (A.length+1) c8 aa _ _ rfl rfl ?_)
           go_ret;exact ⟨_,rfl,z.out _ rfl⟩
     ·have K:Hid (insC A ((d,x1,x2,x3),f)=A):=by
       show insC A ((d,x1,x2,x3),f)=A
       rw [W.out,if_pos (J.out.1 rfl)]
      go_wp2;go_ret;refine ⟨_,rfl, ?_,Z.out.2⟩;rw [K.out];exact Qj HA.out.1 Z.out.2
   ·obtain ⟨Q,Y⟩:=H.out.1 rfl;have be:k<A.length:=Q
    have HN:Hid (∀ j (h:j<A.length),j<k+1→ltC A[j] ((d,x1,x2,x3),f)=true):=fun j h hj=>by
     by_cases e:j=k
     ·subst e;exact Y
     ·exact HK.out.1 j h γ
    clear Y;go_wp2;go_roundg (A.length+1 - (k+1))
    case measure=>omega
    case rel=>exact ⟨k+1,γ,rfl,σ,HN.out,HC.out.1,HC.out.2⟩
end Go.Proofs.YtnpboeodhpenmaaGreatDoor
namespace Go.Proofs
open Go.Shelf
def Tryz.sortClash_ren:Go.Shelf.Ren:=⟨fun | 6=>40 | 15=>108 | 14=>107 | 28=>208 | 29=>209 | 20=>200 | 21=>201 | 22=>202 | 23=>203 | 24=>204 | 25=>205 | 26=>206 | 27=>207 | 46=>257 | 47=>258 | 48=>259 | 49=>260 | 50=>261 | 57=>283 | n=>n,fun | 22=>32 | 24=>44 | 25=>119 | 3=>3 | 39=>195 | 0=>0 | 53=>284 | 55=>286 | 4=>4 | 46=>278 | 45=>277 | 50=>153 | 5=>5 | 9=>9 | 66=>330 | 70=>334 | 76=>358 | 77=>232 | n=>n,fun | n=>n⟩
theorem Tryz.sortClash:Go.Proofs.SlLaysF0.n6 Tryz.prog Tryz.sortClash_ren:={
 mixed:=by kernel_rfl
 f6:=⟨Tryz.f40.name,by decide,Tryz.func40.trans (congrArg some (by kernel_rfl))⟩
 f14:=⟨Tryz.f107.name,by decide,Tryz.func107.trans (congrArg some (by kernel_rfl))⟩
 f15:=Tryz.func108.trans (congrArg some (by kernel_rfl))
 f20:=⟨Tryz.f200.name,by decide,Tryz.func200.trans (congrArg some (by kernel_rfl))⟩
 f21:=⟨Tryz.f201.name,by decide,Tryz.func201.trans (congrArg some (by kernel_rfl))⟩
 f22:=⟨Tryz.f202.name,by decide,Tryz.func202.trans (congrArg some (by kernel_rfl))⟩
 f23:=⟨Tryz.f203.name,by decide,Tryz.func203.trans (congrArg some (by kernel_rfl))⟩
 f24:=⟨Tryz.f204.name,by decide,Tryz.func204.trans (congrArg some (by kernel_rfl))⟩
 f25:=⟨Tryz.f205.name,by decide,Tryz.func205.trans (congrArg some (by kernel_rfl))⟩
 f26:=⟨Tryz.f206.name,by decide,Tryz.func206.trans (congrArg some (by kernel_rfl))⟩
 f27:=⟨Tryz.f207.name,by decide,Tryz.func207.trans (congrArg some (by kernel_rfl))⟩
 f28:=Tryz.func208.trans (congrArg some (by kernel_rfl))
 f29:=Tryz.func209.trans (congrArg some (by kernel_rfl))
 f46:=⟨Tryz.f257.name,by decide,Tryz.func257.trans (congrArg some (by kernel_rfl))⟩
 f47:=Tryz.func258.trans (congrArg some (by kernel_rfl))
 f48:=Tryz.func259.trans (congrArg some (by kernel_rfl))
 f49:=⟨Tryz.f260.name,by decide,Tryz.func260.trans (congrArg some (by kernel_rfl))⟩
 f50:=⟨Tryz.f261.name,by decide,Tryz.func261.trans (congrArg some (by kernel_rfl))⟩
 f57:=⟨Tryz.f283.name,by decide,Tryz.func283.trans (congrArg some (by kernel_rfl))⟩
 t0:=Tryz.underlying0
 a0:=Tryz.isAgg0
 z0:=Tryz.sizeOf0
 v0:=Tryz.zeroValue0
 t3:=Tryz.underlying3
 a3:=Tryz.isAgg3
 z3:=Tryz.sizeOf3
 v3:=Tryz.zeroValue3
 t4:=Tryz.underlying4
 a4:=Tryz.isAgg4
 z4:=Tryz.sizeOf4
 v4:=Tryz.zeroValue4
 t5:=Tryz.underlying5
 a5:=Tryz.isAgg5
 z5:=Tryz.sizeOf5
 v5:=Tryz.zeroValue5
 t9:=Tryz.underlying9
 a9:=Tryz.isAgg9
 z9:=Tryz.sizeOf9
 v9:=Tryz.zeroValue9
 t22:=Tryz.underlying32
 a22:=Tryz.isAgg32
 z22:=Tryz.sizeOf32
 v22:=Tryz.zeroValue32
 t25:=Tryz.underlying119
 a25:=Tryz.isAgg119
 z25:=Tryz.sizeOf119
 v25:=Tryz.zeroValue119
 t39:=Tryz.underlying195
 a39:=Tryz.isAgg195
 z39:=Tryz.sizeOf195
 v39:=Tryz.zeroValue195
 t45:=Tryz.underlying277
 a45:=Tryz.isAgg277
 z45:=Tryz.sizeOf277
 v45:=Tryz.zeroValue277
 t46:=Tryz.underlying278
 a46:=Tryz.isAgg278
 z46:=Tryz.sizeOf278
 v46:=Tryz.zeroValue278
 t50:=Tryz.underlying153
 a50:=Tryz.isAgg153
 z50:=Tryz.sizeOf153
 v50:=Tryz.zeroValue153
 t53:=Tryz.underlying284
 a53:=Tryz.isAgg284
 z53:=Tryz.sizeOf284
 v53:=Tryz.zeroValue284
 t55:=Tryz.underlying286
 a55:=Tryz.isAgg286
 z55:=Tryz.sizeOf286
 v55:=Tryz.zeroValue286
 t66:=Tryz.underlying330
 a66:=Tryz.isAgg330
 z66:=Tryz.sizeOf330
 v66:=Tryz.zeroValue330
 t70:=Tryz.underlying334
 a70:=Tryz.isAgg334
 z70:=Tryz.sizeOf334
 v70:=Tryz.zeroValue334
 t76:=Tryz.underlying358
 a76:=Tryz.isAgg358
 z76:=Tryz.sizeOf358
 v76:=Tryz.zeroValue358
 t77:=Tryz.underlying232
 a77:=Tryz.isAgg232
 z77:=Tryz.sizeOf232
 v77:=Tryz.zeroValue232 }
end Go.Proofs
namespace Go.Proofs.YtnpboeodhpenmaaGreatDoor
open Go.RowKit Go.Shelf Go.Lib
open Go.Sort hiding Below
theorem Qaf (a b p q:Int) (w:World) :
  Cl 109 #[.agg #[I a,I b],.agg #[I p,I q]] w fun e w'=>e=.returned (I (cmpP a b p q))∧GD w w':=by
 go_enter Tryz.func109,Tryz.ntmps109;go_wp2
 go_region_held3 (fun w'=>At w' w.heap.size 0 (I a)∧At w' w.heap.size 1 (I b)∧At w' (w.heap.size+1) 0 (I p)∧At w' (w.heap.size+1) 1 (I q))
  ((refine ⟨?_, ?_, ?_, ?_⟩ <;> (repeat' (first | (with_reducible assumption) | (dsimp only;omega) | (simp [go_sem];done) | (with_reducible refine Qk ?_) | (with_reducible refine Qq ?_)))))
  (first | (go_at_call 44;refine (Yn _ _ _).mono ?_;rintro e c ⟨rfl,rfl⟩) | (go_at_call 42;refine (Kq (cmp3 a p) (cmp3 b q) _ _ _ ε ε).mono ?_;rintro e d ⟨rfl,rfl⟩))
 all_goals
  go_wp2;go_ret;refine ⟨rfl, ?_⟩;with_reducible repeat' (first | exact Zd _ | refine Jy ?_ | refine Yq ?_)
theorem Qbg (a b c d p q r s:Int) (w:World) :
  Cl 43 #[.agg #[I a,I b,I c,I d],.agg #[I p,I q,I r,I s]] w fun e w'=>e=.returned (I (cmpE a b c d p q r s))∧GD w w':=by
 go_enter Tryz.func43,Tryz.ntmps43;go_wp2
 go_region_held3 (fun w'=>At w' w.heap.size 0 (I a)∧At w' w.heap.size 1 (I b)∧At w' w.heap.size 2 (I c)∧At w' w.heap.size 3 (I d)∧At w' (w.heap.size+1) 0 (I p)∧At w' (w.heap.size+1) 1 (I q)∧At w' (w.heap.size+1) 2 (I r)∧At w' (w.heap.size+1) 3 (I s))
  ((refine ⟨?_, ?_, ?_, ?_, ?_, ?_, ?_, ?_⟩ <;> (repeat' (first | (with_reducible assumption) | (dsimp only;omega) | (simp [go_sem];done) | (with_reducible refine Qk ?_) | (with_reducible refine Qq ?_)))))
  (first
   | (go_at_call 109;refine (Qaf _ _ _ _ _).mono ?_;rintro e g ⟨rfl,hg⟩;have f:=gd_below hg;have i:At g w.heap.size 0 (I a):=Qa f μ;have j:At g w.heap.size 1 (I b):=Qa f μ;have k:At g w.heap.size 2 (I c):=Qa f μ;have l:At g w.heap.size 3 (I d):=Qa f μ;have m:At g (w.heap.size+1) 0 (I p):=Qa f μ;have n:At g (w.heap.size+1) 1 (I q):=Qa f μ;have o:At g (w.heap.size+1) 2 (I r):=Qa f μ;have t:At g (w.heap.size+1) 3 (I s):=Qa f μ;have hq:GD w g:=(by with_reducible (first | exact Vi h.out hg | exact Vi (Yq h.out) hg | exact Vi (Yq (Jy (Jy (Zd _)))) hg | exact Vi (Jy (Jy (Zd _))) hg));have h:=Hd hq;clear hq;clear f hg)
   | (go_at_call 42;refine (Kq (cmpP a b p q) (cmpP c d r s) _ _ _ ε ε).mono ?_;rintro e u ⟨rfl,rfl⟩))
 all_goals
  go_wp2;go_ret;refine ⟨rfl, ?_⟩;with_reducible repeat' (first | exact h.out | refine Jy ?_ | refine Yq ?_)
def cmpC (x y:C5):Int:=or2 (cmpE x.1.1 x.1.2.1 x.1.2.2.1 x.1.2.2.2 y.1.1 y.1.2.1 y.1.2.2.1 y.1.2.2.2) (cmp3 x.2 y.2)
theorem cmpE_zero (a b c d p q r s:Int):cmpE a b c d p q r s=0↔sameB a b c d p q r s=true:=by
 unfold cmpE cmpP or2 cmp3 sameB;simp only [decide_eq_true_eq];repeat' split
 all_goals omega
theorem cmpC_lt (x y:C5):ltOf cmpC x y=true↔ltC x y=true:=by
 unfold ltOf cmpC ltC;rw [decide_eq_true_eq,Bool.or_eq_true,Bool.and_eq_true,← Vg,← cmpE_zero,decide_eq_true_eq];unfold or2;split
 ·rename_i h
  rw [h];unfold cmp3;repeat' split
  all_goals omega
 ·rename_i h
  constructor
  ·exact Or.inl
  ·rintro (a | ⟨a,_⟩)
   ·exact a
   ·exact absurd a h
theorem cmpC_not (x y:C5):ltOf cmpC x y=false↔ltC x y=false:=by
 rw [← Bool.not_eq_true,cmpC_lt,Bool.not_eq_true]
theorem swoC:SWO (ltOf cmpC):={
 irrefl:=fun x=>by rw [cmpC_not];exact Qbn x
 trans:=fun x y z h1 h2=>by
  rw [cmpC_lt] at *;exact Qab h1 h2
 ntrans:=fun x y z h1 h2=>by
  rw [cmpC_not,← Bool.not_eq_true,Ku] at *;omega }
def encC (x:C5):List Value:=[I x.1.1,I x.1.2.1,I x.1.2.2.1,I x.1.2.2.2,I x.2]
theorem compareC_gd (a b c d k p q r s l:Int) (w:World) :
  Cl 41 #[.agg #[I a,I b,I c,I d,I k],.agg #[I p,I q,I r,I s,I l]] w fun e w'=>e=.returned (I (or2 (cmpE a b c d p q r s) (cmp3 k l)))∧GD w w':=by
 go_enter Tryz.func41,Tryz.ntmps41;go_wp2
 go_region_held3 (fun w'=>At w' w.heap.size 0 (I a)∧At w' w.heap.size 1 (I b)∧At w' w.heap.size 2 (I c)∧At w' w.heap.size 3 (I d)∧At w' w.heap.size 4 (I k)∧At w' (w.heap.size+1) 0 (I p)∧At w' (w.heap.size+1) 1 (I q)∧At w' (w.heap.size+1) 2 (I r)∧At w' (w.heap.size+1) 3 (I s)∧At w' (w.heap.size+1) 4 (I l))
  ((refine ⟨?_, ?_, ?_, ?_, ?_, ?_, ?_, ?_, ?_, ?_⟩ <;> (repeat' (first | (with_reducible assumption) | (dsimp only;omega) | (simp [go_sem];done) | (with_reducible refine Qk ?_) | (with_reducible refine Qq ?_)))))
  (first
   | (go_at_call 43;refine (Qbg _ _ _ _ _ _ _ _ _).mono ?_;rintro e g ⟨rfl,hg⟩;have f:=gd_below hg;have i:At g w.heap.size 0 (I a):=Qa f μ;have j:At g w.heap.size 1 (I b):=Qa f μ;have m:At g w.heap.size 2 (I c):=Qa f μ;have n:At g w.heap.size 3 (I d):=Qa f μ;have o:At g w.heap.size 4 (I k):=Qa f μ;have t:At g (w.heap.size+1) 0 (I p):=Qa f μ;have u:At g (w.heap.size+1) 1 (I q):=Qa f μ;have v:At g (w.heap.size+1) 2 (I r):=Qa f μ;have x:At g (w.heap.size+1) 3 (I s):=Qa f μ;have y:At g (w.heap.size+1) 4 (I l):=Qa f μ;have hq:GD w g:=(by with_reducible (first | exact Vi h.out hg | exact Vi (Yq h.out) hg | exact Vi (Yq (Jy (Jy (Zd _)))) hg | exact Vi (Jy (Jy (Zd _))) hg));have h:=Hd hq;clear hq;clear f hg)
   | (go_at_call 44;refine (Yn _ _ _).mono ?_;rintro e z ⟨rfl,rfl⟩)
   | (go_at_call 42;refine (Kq (cmpE a b c d p q r s) (cmp3 k l) _ _ _ ε ε).mono ?_;rintro e A ⟨rfl,rfl⟩))
 all_goals
  go_wp2;go_ret;refine ⟨rfl, ?_⟩;with_reducible repeat' (first | exact h.out | refine Jy ?_ | refine Yq ?_)
theorem closureC_gd (x y:C5) (W:World):Cl 41 #[.agg (encC x).toArray,.agg (encC y).toArray] W fun e w'=>e=.returned (I (cmpC x y))∧∃ q os',w'=grow (W.drewN q) os':=compareC_gd _ _ _ _ _ _ _ _ _ _ W
theorem flatJ_enc (l:List C5):flatJ l=l.flatMap encC:=rfl
theorem flatC_at:∀ (a:List C5) (j:Nat),j<a.length*5→(a.flatMap encC)[j]?=some ((encC (a.getD (j / 5) default))[j % 5]!)
 | [],j,h=>by simp at h
 | x :: r,j,h=>by
  rw [List.flatMap_cons];by_cases hj:j<5
  ·rw [List.getElem?_append_left (by simpa [encC] using hj),show j / 5=0 by omega,show j % 5=j by omega];have h4:j=0∨j=1∨j=2∨j=3∨j=4:=γ;rcases h4 with rfl | rfl | rfl | rfl | rfl <;> rfl
  ·rw [List.getElem?_append_right (by simp [encC];omega),show (encC x).length=5 from rfl];have b:=flatC_at r (j - 5) (by simp at h;omega);rw [b,show j / 5=(j - 5) / 5+1 by omega,show j % 5=(j - 5) % 5 by omega];rfl
theorem holdsC {w:World} {base g n c:Nat} {a:List C5} (h:w.ownsRow base 44 5 (.slice (Az g) n c) n (flatJ a)) (i:n=a.length):HoldsK encC 5 w g 0 a.toArray:=by
 subst i;intro j b;rw [size_flatK] at b;simp only [List.size_toArray] at b;rw [get_flatK _ _ _ _ (by simpa using b)];refine ⟨?_, ?_⟩
 ·have f:=h.cellAt j γ;rw [Nat.zero_add,f,flatJ_enc,flatC_at a j b];simp
 ·rcases h.2 with ⟨h1,_⟩ | ⟨k,d,e,h1,_,h3,_⟩
  ·cases h1
  ·cases h1;simp [World.frozen?,h3]
theorem grown_sortedC {w:World} {g m:Nat} {os:Array Obj} (d:Array C5):w.grownBy (sortWorldK encC 5 w g 0 m d os) (some g):=by
 refine ⟨rfl,rfl,rfl,size_sortWorldK_c _ _ _ _ _ _ _ _,fun k b a=>?_⟩;unfold sortWorldK putRowK;rw [heap_grow_old _ _ (by simpa using b)];have:g≠k:=fun e=>a (by rw [e]);simp [putRow,mapBlock,Sort.ahead,Array.getElem?_modify,this]
theorem sortClash_any (w:World) (base c8:Nat) (n:Option Addr) (a:List C5) (h:w.ownsRow base 44 5 (.slice n a.length c8) a.length (flatJ a)) (B:a.length<4611686018427387904) :
  Cl 40 #[.slice n a.length c8,.func (.func 41) #[] #[]] w fun e w'=>e=.returned (.tuple #[])∧∃ Bs',Bs'.Perm a∧Bs'.Pairwise (fun x y=>ltC y x=false)∧JRow w' n Bs'∧w.grownBy w' (Value.slice n a.length c8).ownBlock:=by
 by_cases h0:a=[]
 ·subst h0;have o:=AnyF.slices_SortFunc_none Tryz.sortClash n c8 (.func (.func 41) #[] #[]) w;refine o.mono ?_;rintro e w' ⟨rfl,rfl⟩;exact ⟨rfl,[],List.Perm.refl _,List.Pairwise.nil,fun i hi=>by simp at hi,⟨rfl,rfl,rfl,Nr _,fun _ _ _=>rfl⟩⟩
 ·have t:0<a.length:=List.length_pos_iff.2 h0
  obtain ⟨g,rfl⟩:∃ g,n=Az g:=by
   rcases h.2 with ⟨h1,h2⟩ | ⟨g,u,z,h1,_⟩
   ·omega
   ·cases h1;exact ⟨g,rfl⟩
  have r:=holdsC h rfl;have hg:g<w.heap.size:=(h.lt g rfl).2;have d:=AnyQ.slices_SortFunc Tryz.sortClash 5 Tryz.isAgg44 Tryz.sizeOf44 encC (fun _=>rfl) (fun x v hv=>by simp [encC] at hv;rcases hv with rfl | rfl | rfl | rfl | rfl <;> rfl) cmpC swoC 41 #[] g 0 c8 a.toArray w (enters_of Tryz.func41 η rfl) (fun _ _ _ _ x y=>closureC_gd x y _) r hg (by simpa using B);change Cl 40 _ _ _ at d
  rw [List.size_toArray] at d;refine d.mono ?_;rintro e w' ⟨rfl,b,m,os,hp,hs,rfl⟩;have l:b.size=a.length:=by simpa using hp.1
  refine ⟨rfl,b.toList, ?_, ?_, ?_,grown_sortedC b⟩
  ·have h3:=hp.2.2
   have e1:(b.extract 0 a.length).toList=b.toList:=by
    rw [← l];simp
   have e2:(a.toArray.extract 0 a.length).toList=a:=ξ;rw [e1,e2] at h3;exact h3
  ·rw [List.pairwise_iff_getElem];intro i j hi s p;have:=hs i j (Nat.zero_le _) p (by simpa [l] using s);rw [cmpC_not] at this;have k:i<b.size:=by simpa using hi
   have q:j<b.size:=by simpa using s
   rw [getElem!_pos b i k,getElem!_pos b j q] at this;simpa using this
  ·intro i hi;have k:i<b.size:=by simpa using hi
   have A:=holdsK_sortWorldK_c encC 5 w g 0 a.toArray b m os r hg (by simpa using l)
   have f:∀ c,c<5→(sortWorldK encC 5 w g 0 m b os).cell? ⟨g,i*5+c,none⟩=some ((encC b.toList[i])[c]!):=fun c o=>by
    have:=(A.cell k o).1;rw [Nat.zero_add] at this;rw [this,getElem!_pos b i k];simp
   exact ⟨g,rfl,f 0 γ,f 1 γ,f 2 γ,f 3 γ,f 4 γ⟩
end Go.Proofs.YtnpboeodhpenmaaGreatDoor
