/- A part of it. -/
import Derived.Test.YtnpboeodhpenmaaGreatDoorQlat
set_option maxRecDepth 100000
set_option maxHeartbeats 40000000
namespace Go.Proofs.YtnpboeodhpenmaaGreatDoor
open Go.ChangeShapes Go.WideShapes Go.ChangeAt Go.WideMaps Go.WideElems Go.RowKit Go.Joins Go.Deep
variable {H:Type} {W w:World} {base k m n:Nat} {v:Value}
theorem four9 {cs:List Value} (h:cs.length=4):∃ a0 a1 a2 a3,cs=[a0,a1,a2,a3]:=by
 match cs,h with
 | [a0,a1,a2,a3],_=>exact ⟨a0,a1,a2,a3,rfl⟩
theorem three9 {cs:List Value} (h:cs.length=3):∃ a0 a1 a2,cs=[a0,a1,a2]:=by
 match cs,h with
 | [a0,a1,a2],_=>exact ⟨a0,a1,a2,rfl⟩
theorem six9 {cs:List Value} (h:cs.length=6):∃ a0 a1 a2 a3 a4 a5,cs=[a0,a1,a2,a3,a4,a5]:=by
 match cs,h with
 | [a0,a1,a2,a3,a4,a5],_=>exact ⟨a0,a1,a2,a3,a4,a5,rfl⟩
theorem c43:Tryz.prog.cellsOf 51=3:=η
theorem c44:Tryz.prog.cellsOf 55=1:=η
theorem c26:Tryz.prog.cellsOf 26=1:=η
theorem c27s:Tryz.prog.cellsOf 27=1:=η
theorem c29:Tryz.prog.cellsOf 29=6:=η
theorem c87:Tryz.prog.cellsOf 107=4:=η
theorem c95:Tryz.prog.cellsOf 91=6:=η
theorem by43:Tryz.prog.bytesOf 51=24:=η
theorem by87:Tryz.prog.bytesOf 107=48:=η
theorem by95:Tryz.prog.bytesOf 91=48:=η
theorem Vo {P:Program} {e:TypeId}:∀ {a:List (DataW H)} {d:DataW H},d∈a→∀ n∈d.weights P e,n∈DataW.weightsAll P e a
 | d' :: r,d,h,n,hn=>by
  rcases List.mem_cons.1 h with rfl | h
  ·simp [DataW.weightsAll,hn]
  ·simp only [DataW.weightsAll,List.mem_append];exact Or.inr (Vo h n hn)
theorem sheet_cells {enc:TypeId×Value→H} {e0 e1 e2 e3:Value} {x:DataW H×List MemPlace}
  (F:DataW.trod enc Tryz.prog W 0 (fun _=>true) true k 25 [e0,e1,e2,e3]=some x) (u:∀ n∈x.1.weights Tryz.prog 25,n≤reachBytes) :
  ∃ (X Y:Int) (a c:Option Addr) (D s n:Nat) (zs r:List Int),[e0,e1,e2,e3]=[I X,I Y,.slice a zs.length D,.slice c n s]∧Row W a zs∧Row W c r∧r.length=n*5∧zs.length≤17592186044416∧n≤3518437208883:=by
 obtain ⟨d,p⟩:=x;obtain ⟨M,y1,y2,y3,n,A,_,t0,B,C,t3⟩:=trod_struct4 Tryz.underlying25 F;simp only [Prod.mk.injEq] at A;obtain ⟨rfl,_⟩:=A;(try simp only at u);rw [weights_sheet] at u
 simp [c3,c70,c72] at t0 B C t3;obtain ⟨X,r0,_,_⟩:=DataW.trod_int Tryz.underlying3 t0;obtain ⟨Y,r1,_,_⟩:=DataW.trod_int Tryz.underlying3 B;simp at r0 r1;subst r0 r1;obtain ⟨c,m,s,r,r3,z,f,o⟩:=creases_of t3;simp at r3;subst r3
 have y:m≤3518437208883:=by
  rcases o with rfl | ⟨E,rs,rfl,e⟩
  ·omega
  ·have:=u ((E.length+rs.length)*Tryz.prog.bytesOf 80) (DataW.weights_mem_each (j:=3) (t:=23) (d:=y3.1) rfl rfl _ (by (try simp only [At,I,Fn,Az,Ad,Bl]);rw [e];simp [DataW.weights,Tryz.underlying23]));(try simp only [At,I,Fn,Az,Ad,Bl] at this);rw [by110] at this
   unfold reachBytes at this;omega
 rcases open_ints Tryz.underlying22 Tryz.underlying3 c3 C with ⟨r2,_⟩ | ⟨x,l,h,zs,r2,_,L,_,J,G,g,_⟩
 ·simp at r2;subst r2;exact ⟨X,Y,none,c,0,s,m,[],r,rfl,fun i hi=>absurd hi ξ,f,z,ξ,y⟩
 ·simp at r2;subst r2;have K:zs.length=h:=by simpa using J
  have q:(zs.take l).length=l:=by (try simp only [At,I,Fn,Az,Ad,Bl]);rw [List.length_take];omega
  refine ⟨X,Y,some x,c,h,s,m,zs.take l,r,by (try simp only [I]);rw [q], ?_,f,z, ?_,y⟩
  ·intro i hi;(try simp only [At,I,Fn,Az,Ad,Bl] at hi);rw [q] at hi
   obtain ⟨b,off,rfl,v⟩:=ints_at g γ;refine ⟨b,off,rfl, ?_⟩;(try simp only [At,I]);rw [v i γ,List.getElem_take,List.getD_eq_getElem?_getD,List.getElem?_eq_getElem γ]
   rfl
  ·have:=u (((lits (H:=H) .i64 (zs.take l)).length+(lits (H:=H) .i64 (zs.drop l)).length)*Tryz.prog.bytesOf 3) (DataW.weights_mem_each (j:=2) (t:=22) (d:=y2.1) rfl rfl _ (by (try simp only [At,I,Fn,Az,Ad,Bl]);rw [G];simp [DataW.weights,Tryz.underlying22]));(try simp only [At,I,Fn,Az,Ad,Bl] at this);rw [by3,show (lits (H:=H) .i64 (zs.take l)).length=(zs.take l).length by simp [lits]] at this
   unfold reachBytes at this;omega
theorem tri_came {enc:TypeId×Value→H} {c:Nat→Bool} {b:Bool} {cs:List Value} {y:DataW H×List MemPlace}
  (h:DataW.trod enc Tryz.prog W base c b m 51 cs=some y):∃ t:Int×Int×Int,cs=[I t.1,I t.2.1,I t.2.2]:=by
 obtain ⟨f,y1,y2,n,_,a,h0,h1,h2⟩:=trod_struct3 Tryz.underlying51 h;rw [c43] at a;obtain ⟨a0,a1,e,rfl⟩:=three9 a;simp [c3] at h0 h1 h2;obtain ⟨d,r0,_,_⟩:=DataW.trod_int Tryz.underlying3 h0;obtain ⟨x1,r1,_,_⟩:=DataW.trod_int Tryz.underlying3 h1;obtain ⟨x2,r2,_,_⟩:=DataW.trod_int Tryz.underlying3 h2;simp at r0 r1 r2;exact ⟨(d,x1,x2),by rw [r0,r1,r2]⟩
theorem spot9 {a:Addr} (h:W.cell? (a.add 0)=some v):∃ b off,a=⟨b,off,none⟩:=by
 obtain ⟨b,off,d⟩:=a;have c:d=none:=by simpa [Addr.add] using World.cell?_spot h
 subst c;exact ⟨b,off,rfl⟩
theorem tris_cells {enc:TypeId×Value→H} {x:DataW H×List MemPlace}
  (h:DataW.trod enc Tryz.prog W 0 (fun _=>true) true k 55 [v]=some x) (J:∀ n∈x.1.weights Tryz.prog 55,n≤reachBytes) :
  ∃ (a:Option Addr) (c:Nat) (l:List T3),v=.slice a l.length c∧l.length≤c∧TRowG W a l∧l.length≤5864062014805:=by
 rcases DataW.trod_slice Tryz.underlying55 h with ⟨e,_⟩ | ⟨a,len,r,f,rest,n,_,e,rfl,N,K,O,p,m,M,L⟩
 ·simp at e;subst e;exact ⟨none,0,[],rfl,Nr _,fun i hi=>by simp at hi,ξ⟩
 ·simp at e;subst e;rw [c43] at m
  have d:∀ i,i<len→∃ t:Int×Int×Int,∀ j,j<3→W.cell? ((a.add (i*3)).add j)=[I t.1,I t.2.1,I t.2.2][j]?:=fun i hi=>by
   have e:=m i hi;rw [List.getElem?_eq_getElem γ,Option.bind_eq_some_iff] at e;obtain ⟨G,z,B⟩:=e;obtain ⟨t,rfl⟩:=tri_came B;exact ⟨t,(World.cells?_some z).2.2⟩
  have y:len≤5864062014805:=by
   have:=J (((f.map (·.1)).length+(rest.map (·.1)).length)*Tryz.prog.bytesOf 51) (by simp [DataW.weights,Tryz.underlying55]);rw [by43,List.length_map,List.length_map,p] at this;unfold reachBytes at this;omega
  have A:∃ F:Nat→Int×Int×Int,∀ i,i<len→∀ j,j<3→W.cell? ((a.add (i*3)).add j)=[I (F i).1,I (F i).2.1,I (F i).2.2][j]?:=by
   refine ⟨fun i=>if h:i<len then Classical.choose (d i h) else (0,0,0),fun i hi=>?_⟩;simp only [dif_pos hi];exact Classical.choose_spec (d i hi)
  obtain ⟨F,q⟩:=A;refine ⟨some a,r,(List.range len).map F,ξ,by simpa using K,fun i hi=>?_,by simpa using y⟩;have g:i<len:=by simpa using hi
  have C:=q i g 0 γ;have D:=q i g 1 γ;have E:=q i g 2 γ;have u:=q 0 γ 0 γ;rw [Nat.zero_mul] at u
  obtain ⟨b,off,rfl⟩:∃ b off,a=⟨b,off,none⟩:=by
   have:W.cell? (a.add 0)=some (I (F 0).1):=by
    rw [show (a.add 0).add 0=a.add 0 by cases a with | mk b o s=>cases s <;> simp [Addr.add]] at u;simpa using u
   exact spot9 this
  rw [add_plain,add_plain] at C D E;simp only [List.getElem_map,List.getElem_range];exact ⟨b,off,rfl,by simpa using C,by simpa using D,by simpa using E⟩
theorem map_cells {enc:TypeId×Value→H} {k:Nat→Bool} {j:Bool} {cs:List Value} {y:DataW H×List MemPlace}
  (h:DataW.trod enc Tryz.prog W base k j m 91 cs=some y):∃ t:M6,cs=[I t.1,I t.2.1,I t.2.2.1,I t.2.2.2.1,I t.2.2.2.2.1,I t.2.2.2.2.2]:=by
 obtain ⟨q,n,_,_,e,b,a⟩:=DataW.trod_struct Tryz.underlying91 h;rw [c95] at e;obtain ⟨a0,a1,r,a3,a4,a5,rfl⟩:=six9 e;have f:q.length=6:=b;have k0:=a 0 _ rfl;have k1:=a 1 _ rfl;have k2:=a 2 _ rfl;have k3:=a 3 _ rfl;have c:=a 4 _ rfl;have d:=a 5 _ rfl;rw [List.getElem?_eq_getElem γ] at k0 k1 k2 k3 c d;simp [c3] at k0 k1 k2 k3 c d;obtain ⟨l,r0,_,_⟩:=DataW.trod_int Tryz.underlying3 k0;obtain ⟨x1,r1,_,_⟩:=DataW.trod_int Tryz.underlying3 k1;obtain ⟨x2,r2,_,_⟩:=DataW.trod_int Tryz.underlying3 k2;obtain ⟨x3,r3,_,_⟩:=DataW.trod_int Tryz.underlying3 k3;obtain ⟨o,g,_,_⟩:=DataW.trod_int Tryz.underlying3 c;obtain ⟨p,i,_,_⟩:=DataW.trod_int Tryz.underlying3 d;simp at r0 r1 r2 r3 g i;exact ⟨(l,x1,x2,x3,o,p),by rw [r0,r1,r2,r3,g,i]⟩
theorem maps_cells {enc:TypeId×Value→H} {x:DataW H×List MemPlace}
  (h:DataW.trod enc Tryz.prog W 0 (fun _=>true) true k 26 [v]=some x) (J:∀ n∈x.1.weights Tryz.prog 26,n≤reachBytes) :
  ∃ (a:Option Addr) (n c:Nat) (M:Nat→M6),v=.slice a n c∧MRowG W a n M∧n≤2932031007402:=by
 rcases DataW.trod_slice Tryz.underlying26 h with ⟨e,_⟩ | ⟨a,len,p,f,rest,n,_,e,rfl,N,O,P,m,l,L,K⟩
 ·simp at e;subst e;exact ⟨none,0,0,fun _=>noM,rfl,fun i hi=>by omega,γ⟩
 ·simp at e;subst e;rw [c95] at l
  have d:∀ i,i<len→∃ t:M6,∀ j,j<6→W.cell? ((a.add (i*6)).add j)=[I t.1,I t.2.1,I t.2.2.1,I t.2.2.2.1,I t.2.2.2.2.1,I t.2.2.2.2.2][j]?:=fun i hi=>by
   have e:=l i hi;rw [List.getElem?_eq_getElem γ,Option.bind_eq_some_iff] at e;obtain ⟨G,u,z⟩:=e;obtain ⟨t,rfl⟩:=map_cells z;exact ⟨t,(World.cells?_some u).2.2⟩
  have r:len≤2932031007402:=by
   have:=J (((f.map (·.1)).length+(rest.map (·.1)).length)*Tryz.prog.bytesOf 91) (by simp [DataW.weights,Tryz.underlying26]);rw [by95,List.length_map,List.length_map,m] at this;unfold reachBytes at this;omega
  have y:∃ F:Nat→M6,∀ i,i<len→∀ j,j<6→W.cell? ((a.add (i*6)).add j)=[I (F i).1,I (F i).2.1,I (F i).2.2.1,I (F i).2.2.2.1,I (F i).2.2.2.2.1,I (F i).2.2.2.2.2][j]?:=by
   refine ⟨fun i=>if h:i<len then Classical.choose (d i h) else noM,fun i hi=>?_⟩;simp only [dif_pos hi];exact Classical.choose_spec (d i hi)
  obtain ⟨F,g⟩:=y;refine ⟨some a,len,p,F,rfl,fun i hi=>?_,r⟩;have A:=g i hi 0 γ;have B:=g i hi 1 γ;have C:=g i hi 2 γ;have g3:=g i hi 3 γ;have D:=g i hi 4 γ;have E:=g i hi 5 γ;have q:=g 0 γ 0 γ;rw [Nat.zero_mul] at q
  obtain ⟨b,off,rfl⟩:∃ b off,a=⟨b,off,none⟩:=by
   have:W.cell? (a.add 0)=some (I (F 0).1):=by
    rw [show (a.add 0).add 0=a.add 0 by cases a with | mk b o s=>cases s <;> simp [Addr.add]] at q;simpa using q
   exact spot9 this
  rw [add_plain,add_plain] at A B C g3 D E;exact ⟨b,off,rfl,by simpa using A,by simpa using B,by simpa using C,by simpa using g3,by simpa using D,by simpa using E⟩
theorem stack_cells {enc:TypeId×Value→H} {cs:List Value} {y:DataW H×List MemPlace}
  (h:DataW.trod enc Tryz.prog W 0 (fun _=>true) true m 107 cs=some y) (i:∀ n∈y.1.weights Tryz.prog 107,n≤reachBytes):∃ (t:T3) (a:Option Addr) (c:Nat) (l:List T3),cs=[I t.1,I t.2.1,I t.2.2,.slice a l.length c]∧l.length≤c∧TRowG W a l∧l.length≤5864062014805:=by
 obtain ⟨p,y1,n,k,b,h0,h1⟩:=trod_struct2 Tryz.underlying107 h;rw [c87] at b;obtain ⟨a0,a1,o,a3,rfl⟩:=four9 b;simp [c43,c44] at h0 h1;obtain ⟨t,e⟩:=tri_came h0;simp at e;obtain ⟨rfl,rfl,rfl⟩:=e
 obtain ⟨a,c,l,rfl,g,hT,f⟩:=tris_cells h1 (fun q hq=>i q (by
  rw [k];unfold DataW.weights;rw [Tryz.underlying107];exact DataW.weights_mem_each (j:=1) (t:=55) (d:=y1.1) rfl rfl q hq))
 exact ⟨t,a,c,l,rfl,g,hT,f⟩
theorem stacks_cells {enc:TypeId×Value→H} {r:Nat} {x:DataW H×List MemPlace}
  (h:DataW.trod enc Tryz.prog W 0 (fun _=>true) true r 27 [v]=some x) (P:∀ n∈x.1.weights Tryz.prog 27,n≤reachBytes) :
  ∃ (a:Option Addr) (c:Nat) (S:List (T3×List T3)),v=.slice a S.length c∧SRowG W a S∧S.length≤2932031007402∧∀ s∈S,s.2.length≤5864062014805:=by
 rcases DataW.trod_slice Tryz.underlying27 h with ⟨e,_⟩ | ⟨a,len,z,f,rest,n,_,e,rfl,O,V,X,y,u,U,T⟩
 ·simp at e;subst e;exact ⟨none,0,[],rfl,fun i hi=>by simp at hi,ξ,fun s hs=>by simp at hs⟩
 ·simp at e;subst e;rw [c87] at u
  have p:∀ i,i<len→∃ s:T3×List T3,∃ (k:Option Addr) (m:Nat),(∀ j,j<4→W.cell? ((a.add (i*4)).add j)=[I s.1.1,I s.1.2.1,I s.1.2.2,.slice k s.2.length m][j]?)∧s.2.length≤m∧TRowG W k s.2∧s.2.length≤5864062014805:=fun i hi=>by
   have e:=u i hi;rw [List.getElem?_eq_getElem γ,Option.bind_eq_some_iff] at e;obtain ⟨Q,D,J⟩:=e
   obtain ⟨t,k,m,l,rfl,R,hT,O⟩:=stack_cells J (fun q hq=>P q (by
    simp only [DataW.weights,Tryz.underlying27];refine List.mem_cons_of_mem _ (List.mem_append_left _ (Vo (d:=(f[i]'γ).1) ?_ q hq));exact List.mem_map_of_mem (Lm _)))
   exact ⟨(t,l),k,m,(World.cells?_some D).2.2,R,hT,O⟩
  have C:len≤2932031007402:=by
   have:=P (((f.map (·.1)).length+(rest.map (·.1)).length)*Tryz.prog.bytesOf 107) (by simp [DataW.weights,Tryz.underlying27]);rw [by87,List.length_map,List.length_map,y] at this;unfold reachBytes at this;omega
  have E:∃ F:Nat→T3×List T3,∀ i,i<len→∃ (k:Option Addr) (m:Nat),(∀ j,j<4→W.cell? ((a.add (i*4)).add j)=[I (F i).1.1,I (F i).1.2.1,I (F i).1.2.2,.slice k (F i).2.length m][j]?)∧(F i).2.length≤m∧TRowG W k (F i).2∧(F i).2.length≤5864062014805:=by
   refine ⟨fun i=>if h:i<len then Classical.choose (p i h) else ((0,0,0),[]),fun i hi=>?_⟩;simp only [dif_pos hi];exact Classical.choose_spec (p i hi)
  obtain ⟨F,B⟩:=E;refine ⟨some a,z,(List.range len).map F,ξ,fun i hi=>?_,by simpa using C,fun s hs=>?_⟩
  ·have G:i<len:=by simpa using hi
   obtain ⟨k,m,g,h1,h2,_⟩:=B i G;obtain ⟨_,_,K,_⟩:=B 0 γ;have L:=g 0 γ;have M:=g 1 γ;have N:=g 2 γ;have g3:=g 3 γ;have A:=K 0 γ;rw [Nat.zero_mul] at A
   obtain ⟨b,off,rfl⟩:∃ b off,a=⟨b,off,none⟩:=by
    have:W.cell? (a.add 0)=some (I (F 0).1.1):=by
     rw [show (a.add 0).add 0=a.add 0 by cases a with | mk b o s=>cases s <;> simp [Addr.add]] at A;simpa using A
    exact spot9 this
   rw [add_plain,add_plain] at L M N g3;simp only [List.getElem_map,List.getElem_range];exact ⟨b,off,k,m,rfl,by simpa using L,by simpa using M,by simpa using N,by simpa using g3,h1,h2⟩
  ·rw [List.mem_map] at hs;obtain ⟨i,hi,rfl⟩:=hs;rw [List.mem_range] at hi;obtain ⟨_,_,_,_,_,h⟩:=B i hi;exact h
theorem state_of {enc:TypeId×Value→H} {d:DataW H} {p:List MemPlace} (hv:Value.okWide Tryz.prog W .any base 29 v)
  (h:DataW.Trod enc Tryz.prog W 0 (fun _=>true) true 29 v d p) (f:∀ n∈d.weights Tryz.prog 29,n≤reachBytes) :
  ∃ (X Y:Int) (a c i k:Option Addr) (o r n b x z:Nat) (zs g:List Int) (M:Nat→M6) (S:List (T3×List T3)),v=.agg #[I X,I Y,.slice a zs.length o,.slice c n r,.slice i b x,.slice k S.length z]∧Row W a zs∧Row W c g∧g.length=n*5∧zs.length≤17592186044416∧n≤3518437208883∧MRowG W i b M∧b≤2932031007402∧SRowG W k S∧S.length≤2932031007402∧∀ s∈S,s.2.length≤5864062014805:=by
 obtain ⟨cs,rfl,u⟩:=okWide_struct Tryz.underlying29 hv;obtain ⟨l⟩:=cs;obtain ⟨e0,e1,e2,e3,Q,R,rfl⟩:=six9 (cs:=l) (by have:=u.trans c29;simpa using this);obtain ⟨B,F⟩:=h;obtain ⟨A,y1,y2,n,C,_,t0,D,E⟩:=trod_struct3 Tryz.underlying29 F;simp only [Prod.mk.injEq] at C;obtain ⟨rfl,_⟩:=C
 have G:DataW.weights Tryz.prog 29 (.agg [A.1,y1.1,y2.1])=DataW.weightsEach Tryz.prog [25,26,27] [A.1,y1.1,y2.1]:=by
  unfold DataW.weights;rw [Tryz.underlying29];rfl
 rw [G] at f;simp [Value.cells,c74,c26,c27s] at t0 D E;obtain ⟨X,Y,a,c,o,r,m,zs,g,e,r1,r2,r3,J,K⟩:=sheet_cells t0 (fun q hq=>f q (DataW.weights_mem_each (j:=0) (t:=25) (d:=A.1) rfl rfl q hq));simp at e;obtain ⟨rfl,rfl,rfl,rfl⟩:=e;obtain ⟨i,b,x,M,rfl,L,N⟩:=maps_cells D (fun q hq=>f q (DataW.weights_mem_each (j:=1) (t:=26) (d:=y1.1) rfl rfl q hq));obtain ⟨k,z,S,rfl,O,P,y⟩:=stacks_cells E (fun q hq=>f q (DataW.weights_mem_each (j:=2) (t:=27) (d:=y2.1) rfl rfl q hq));exact ⟨X,Y,a,c,i,k,o,r,m,b,x,z,zs,g,M,S,rfl,r1,r2,r3,J,K,L,N,O,P,y⟩
theorem pieIn_any (w:World) (d j f N lo hi i:Nat) (h:Nat→Int) (n:Hg w f N h) (g:At w d 0 (I (lo:Int))) (p:At w d 1 (I (hi:Int))) (k:At w j 0 (ABv f)) (h0:lo<N) (h1:hi<N) (h2:i<N) (l:N≤300) :
  Rt 196 #[I (i:Int),.pointer (Az d),.pointer (Az j)] w (.bool (arB h (lo,hi) i)):=by
 have c:=Hd (fun (V:World) hV=>Kc V f N lo hi i h (n.kept hV) h0 h1 h2 l);obtain ⟨b1,a⟩:∃ b,b=arB h (lo,hi) i:=⟨_,rfl⟩;rw [← a] at c ⊢;have q:=Bt k;have r:=Bt g;clear a n h0 h1 h2 l;unfold ABv at k c;go_enter Tryz.func196,Tryz.ntmps196;go_wp2_with (go_at_call 197;(with_reducible refine (c.out _ (by with_reducible exact Qe _)).mono ?_);rintro e w1 ⟨rfl,m⟩;have o:=Hd m;clear m)
 go_ret;exact ⟨rfl,o.out⟩
theorem pieCl_any (w:World) (r d k N lo hi m c:Nat) (a:Option Addr) (l:List Nat) (h:Nat→Int) (x:Hg w k N h) (B:At w r 0 (.slice a m c)) (y:IRow w a l) (z:m=l.length) (j:m≤100000000) (s:At w d 0 (ABv k)) (h0:lo<N) (h1:hi<N) (h2:∀ i∈l,i<N) (u:N≤300) :
  Rt 195 #[.agg #[I (lo:Int),I (hi:Int)],.pointer (Az r),.pointer (Az d)] w (.bool (l.any (arB h (lo,hi)))):=by
 have q:Hid (∀ V:World,Below (w.alloc (.cells #[I (lo:Int),I (hi:Int)] 271)).heap.size (w.alloc (.cells #[I (lo:Int),I (hi:Int)] 271)) V→Rt 164 #[.slice a m c,.func (.func 196) #[] #[.pointer (Az w.heap.size),.pointer (Az d)]] V (.bool (l.any (arB h (lo,hi))))):=fun V o=>by
  have t:Bl w V:=Qc β1 o;refine Qbf V a m c w.heap.size d l (arB h (lo,hi)) (y.kept t) z j (fun U p n hp=>?_);have f:=Qc t n;exact pieIn_any U w.heap.size d k N lo hi p h (x.kept f) (Qa (Qc o n) δ) (Qa (Qc o n) δ) (Qa f s) h0 h1 (h2 p hp) u
 obtain ⟨b1,g⟩:∃ b,b=l.any (arB h (lo,hi)):=⟨_,rfl⟩;rw [← g] at q ⊢;have D:=Bt B;clear g x h0 h1 h2 u y s z j;have C:=Jf;go_enter Tryz.func195,Tryz.ntmps195;go_wp2_with (go_at_call 164;(with_reducible refine (q.out _ (Qe _)).mono ?_);rintro e w1 ⟨rfl,v⟩;have A:=Hd (Qc β1 v);clear v)
 go_ret;exact ⟨rfl,A.out⟩
def tgB (h:Nat→Int) (a b:Nat×Nat):Bool:=arB h a b.1 != arB h a b.2
theorem tanCl_any (w:World) (k s f N lo hi p q:Nat) (h:Nat→Int) (n:Hg w f N h) (c:At w k 0 (I (lo:Int))) (g:At w k 1 (I (hi:Int))) (j:At w s 0 (ABv f)) (h0:lo<N) (h1:hi<N) (h2:p<N) (h3:q<N) (l:N≤300) :
  Rt 198 #[.agg #[I (p:Int),I (q:Int)],.pointer (Az k),.pointer (Az s)] w (.bool (tgB h (lo,hi) (p,q))):=by
 obtain ⟨b1,d⟩:∃ b,b=arB h (lo,hi) p:=⟨_,rfl⟩;obtain ⟨b2,e⟩:∃ b,b=arB h (lo,hi) q:=⟨_,rfl⟩;have o:Hid (∀ V:World,Bl w V→Rt 197 #[.agg #[I (lo:Int),I (hi:Int)],I (p:Int),ABv f] V (.bool b1)):=fun V m=>by rw [d];exact Kc V f N lo hi p h (n.kept m) h0 h1 h2 l
 have r:Hid (∀ V:World,Bl w V→Rt 197 #[.agg #[I (lo:Int),I (hi:Int)],I (q:Int),ABv f] V (.bool b2)):=fun V m=>by rw [e];exact Kc V f N lo hi q h (n.kept m) h0 h1 h3 l
 have t:Hid (tgB h (lo,hi) (p,q)=(b1 != b2)):=by rw [d,e];rfl
 clear d e h0 h1 h2 h3 l n;unfold ABv at j o r;go_enter Tryz.func198,Tryz.ntmps198;go_upto_region 1 with fail
 refine Qi (fun i hW0=>?_);have a:Hid (Bl w i):=γ4;have x:At i w.heap.size 0 (I (p:Int)):=ν;have y:At i w.heap.size 1 (I (q:Int)):=ν;have z0:=Bt x;clear hW0;replace c:=Qa a.out c;replace g:=Qa a.out g;replace j:=Qa a.out j;have z1:=Bt c;have z2:=Bt j;obtain ⟨u,v⟩:=kcn i;refine wk ?_;repeat (go_big_quiet_step ((first | (go_at_call 197;(with_reducible exact Qf (o.out _ (Qc a.out (Kin.h _))))) | (go_at_call 197;(with_reducible exact Qf (r.out _ (Qc a.out (Kin.h _))))) | fail)))
 refine kq1 (fun z hq=>?_);clear u v;go_wp2;go_ret;exact ⟨Qv (by rw [t.out];cases b1 <;> cases b2 <;> rfl),Qc a.out hq⟩
theorem Uj (w:World) (f N k c0 m c:Nat) (a0 a:Option Addr) (l:List (Nat×Nat)) (h:Nat→Int) (s:Hg w f N h) (t:FRow w a l) (u:m=l.length) (i:m≤100000000) (d:∀ p∈l,p.1<N∧p.2<N) (o:N≤300) :
  Rt 106 #[.agg #[.slice a0 k c0,.slice a m c],ABv f] w (.bool (l.any fun p=>decide (h p.2<h p.1))):=by
 have j:Hid (∀ V:World,Below ((w.alloc (.cells #[.slice a0 k c0,.slice a m c] 112)).alloc (.cells #[ABv f] 102)).heap.size ((w.alloc (.cells #[.slice a0 k c0,.slice a m c] 112)).alloc (.cells #[ABv f] 102)) V→Rt 194 #[.slice a m c,.func (.func 199) #[] #[.pointer (Az (w.heap.size+1))]] V (.bool (l.any fun p=>decide (h p.2<h p.1)))):=fun V r=>by
  have n:Bl w V:=Qc β2 r;refine Qbe V a m c (w.heap.size+1) l _ (t.kept n) u i (fun U p q hp=>?_);exact misCl_any U f (w.heap.size+1) N p.1 p.2 h (s.kept (Qc n q)) (Qa (Qc r q) δ) (d p hp).1 (d p hp).2 o
 obtain ⟨b1,g⟩:∃ b,b=l.any fun p=>decide (h p.2<h p.1):=⟨_,rfl⟩;rw [← g] at j ⊢;clear g s d o t u i;have x:=Jf;unfold ABv at j ⊢;go_enter Tryz.func106,Tryz.ntmps106;go_wp2_with (go_at_call 194;(with_reducible refine (j.out _ (Qe _)).mono ?_);rintro e w1 ⟨rfl,d⟩;have v:=Hd (Qc β2 d);clear d)
 go_ret;exact ⟨rfl,v.out⟩
theorem Qao (w:World) (j N g c0 m c:Nat) (a0 a:Option Addr) (l0:List Nat) (l:List (Nat×Nat)) (h:Nat→Int) (y:Hg w j N h) (o:IRow w a0 l0) (q:g=l0.length) (d:g≤100000000) (z:FRow w a l) (A:m=l.length) (r:m≤100000000) (k:∀ i∈l0,i<N) (f:∀ p∈l,p.1<N∧p.2<N) (x:N≤300) :
  Rt 104 #[.agg #[.slice a0 g c0,.slice a m c],ABv j] w (.bool (l.any fun p=>l0.any (arB h p))):=by
 have t:Hid (∀ V:World,Below ((w.alloc (.cells #[.slice a0 g c0,.slice a m c] 112)).alloc (.cells #[ABv j] 102)).heap.size ((w.alloc (.cells #[.slice a0 g c0,.slice a m c] 112)).alloc (.cells #[ABv j] 102)) V→Rt 194 #[.slice a m c,.func (.func 195) #[] #[.pointer (Az w.heap.size),.pointer (Az (w.heap.size+1))]] V (.bool (l.any fun p=>l0.any (arB h p)))):=fun V v=>by
  have u:Bl w V:=Qc β2 v;refine Qbd V a m c w.heap.size (w.heap.size+1) l _ (z.kept u) A r (fun U p s hp=>?_);exact pieCl_any U w.heap.size (w.heap.size+1) j N p.1 p.2 g c0 a0 l0 h (y.kept (Qc u s)) (Qa (Qc v s) δ) (o.kept (Qc u s)) q d (Qa (Qc v s) δ) (f p hp).1 (f p hp).2 k x
 obtain ⟨b1,n⟩:∃ b,b=l.any fun p=>l0.any (arB h p):=⟨_,rfl⟩;rw [← n] at t ⊢;clear n y f k x z o A q r d;have C:=Jf;unfold ABv at t ⊢;go_enter Tryz.func104,Tryz.ntmps104;go_wp2_with (go_at_call 194;(with_reducible refine (t.out _ (Qe _)).mono ?_);rintro e w1 ⟨rfl,f⟩;have B:=Hd (Qc β2 f);clear f)
 go_ret;exact ⟨rfl,B.out⟩
def tnP (h:Nat→Int) (l:List (Nat×Nat)) (n:Nat):Bool:=(l.take n).any (tgB h (l.getD n (0,0)))
def tnB (h:Nat→Int) (l:List (Nat×Nat)):Bool:=(List.range l.length).any (tnP h l)
theorem Vp {f:Nat→Bool} (h:∀ j,j<n→f j=false):(List.range n).any f=false:=by
 rw [List.any_eq_false];intro j a;rw [h j (List.mem_range.1 a)];simp
theorem Xv {f:Nat→Bool} {i:Nat} (hi:i<n) (h:f i=true):(List.range n).any f=true:=List.any_eq_true.2 ⟨i,List.mem_range.2 hi,h⟩
theorem Qal (w:World) (o N A c0 m c:Nat) (a0 a:Option Addr) (l:List (Nat×Nat)) (h:Nat→Int) (J:Hg w o N h) (K:FRow w a l) (L:m=l.length) (T:m≤100000000) (X:m≤c) (H:∀ p∈l,p.1<N∧p.2<N) (G:N≤300) :
  Rt 105 #[.agg #[.slice a0 A c0,.slice a m c],ABv o] w (.bool (tnB h l)):=by
 have n:=H5 K L J H G;clear K L J H G;obtain ⟨R,C⟩:∃ R,R=tnB h l:=⟨_,rfl⟩;rw [← C];have F:=Hd C;clear C;have Y:=Jf;obtain ⟨u,hW1⟩:∃ W,W=((w.alloc (.cells #[.slice a0 A c0,.slice a m c] 112)).alloc (.cells #[ABv o] 102)):=⟨_,rfl⟩;have t:=Hd hW1;clear hW1;have M:((w.alloc (.cells #[.slice a0 A c0,.slice a m c] 112)).alloc (.cells #[ABv o] 102)).cell? ⟨w.heap.size,1,none⟩=some (.slice a m c):=δ;have x1:((w.alloc (.cells #[.slice a0 A c0,.slice a m c] 112)).alloc (.cells #[ABv o] 102)).cell? ⟨w.heap.size+1,0,none⟩=some (ABv o):=δ
 have HX:Hid (At u w.heap.size 1 (.slice a m c)∧At u (w.heap.size+1) 0 (ABv o)∧Bl w u∧u.heap.size=w.heap.size+1+1):=by
  rw [t.out];exact ⟨M,x1,Qb β1,ξ⟩
 clear M x1;go_enter Tryz.func105,Tryz.ntmps105;go_wp2;go_loopg [10] m (fun P E wx=>∃ i:Nat,i≤m∧P=m - i∧E=I (i:Int)∧Hid (∀ j,j<i→tnP h l j=false)∧Bl u wx)
 case atStart=>exact ⟨0,γ,rfl,rfl,fun j h=>by omega,by rw [t.out];exact Qe _⟩
 case round =>
  obtain ⟨i,hi,rfl,rfl,x,s⟩:=hrel;have q:=H2 s (Qc HX.out.2.2.1 s);clear s;by_cases h1:i<m
  ·have Z:(i:Int)<(m:Int):=γ;have i0:(0:Int)≤(i:Int):=γ;have i2:(i:Int)≤(c:Int):=γ;have f:i<l.length:=n.out.2.1 ▸ h1;obtain ⟨g,rfl,d0,d1⟩:=(n.out.1.kept q.out.2) i f;obtain ⟨lo,d,hp⟩:∃ lo hi,l[i]=(lo,hi):=⟨_,_,rfl⟩;rw [hp] at d0 d1;dsimp only at d0 d1;have e1:=Qa q.out.1 HX.out.1;have e2:=Qa q.out.1 HX.out.2.1;have z1:=Bt e1;have z2:=Bt e2;have k:=n.out.2.2.2.1 _ (Lm f);rw [hp] at k;have O:Hid (l[i]=(lo,d)∧tnP h l i=(l.take i).any (tgB h (lo,d))):=⟨hp,by unfold tnP;rw [Qz l i f,hp]⟩;clear hp
   have y:Hid (∀ V:World,Below (wr.alloc (.cells #[I (lo:Int),I (d:Int)] 271)).heap.size (wr.alloc (.cells #[I (lo:Int),I (d:Int)] 271)) V→Rt 194 #[.slice (Az g) i c,.func (.func 198) #[] #[.pointer (Az wr.heap.size),.pointer (Az (w.heap.size+1))]] V (.bool (tnP h l i))):=fun V D=>by
    have s:Bl wr V:=Qc β1 D;have v:=Qc q.out.2 s;rw [O.out.2];refine Qbc V (Az g) i c wr.heap.size (w.heap.size+1) (l.take i) _ ((n.out.1.kept v).take i) γ6 γ (fun U p z hp=>?_);have hq:=n.out.2.2.2.1 p (List.mem_of_mem_take hp);exact tanCl_any U wr.heap.size (w.heap.size+1) o N lo d p.1 p.2 h (n.out.2.2.1.kept (Qc v z)) (Qa (Qc D z) δ) (Qa (Qc D z) δ) (Qa (Qc s z) e2) k.1 k.2 hq.1 hq.2 n.out.2.2.2.2
   clear k
   cases hb2:tnP h l i
   ·rw [hb2] at y;go_wp2_with (go_at_call 194;(with_reducible refine (y.out _ (Qe _)).mono ?_);rintro e w1 ⟨rfl,b⟩;have r:=Hd (Qc q.out.1 (Qc β1 b));clear b)
    go_roundg (m - (i+1))
    case measure=>omega
    case rel =>
     refine ⟨i+1,γ,rfl,σ,fun j Q=>?_,r.out⟩;by_cases e:j=i
     ·subst e;exact hb2
     ·exact x.out j γ
   ·rw [hb2] at y;have B:Hid (R=true):=by rw [F.out];exact Xv f hb2
    go_wp2_with (go_at_call 194;(with_reducible refine (y.out _ (Qe _)).mono ?_);rintro e w1 ⟨rfl,b⟩;have r:=Hd (Qc q.out.1 (Qc β1 b));clear b)
    try rw [Exit.noGoto_ret]
    go_ret;exact ⟨Qv B.out.symm,Qc HX.out.2.2.1 r.out⟩
  ·have Z:¬ (i:Int)<(m:Int):=γ;have B:Hid (R=false):=by rw [F.out];exact Vp (fun j hj=>x.out j (by have:=n.out.2.1;omega))
   go_wp2;go_ret;exact ⟨Qv B.out.symm,q.out.2⟩
def twQ (h:Nat→Int) (l0 l2:List Nat) (i j:Nat):Bool:=decide (h (l0.getD j 0)<h (l0.getD i 0)) != decide (h (l2.getD j 0)<h (l2.getD i 0))
def twP (h:Nat→Int) (l0 l2:List Nat) (i:Nat):Bool:=(List.range i).any (twQ h l0 l2 i)
def twB (h:Nat→Int) (l0 l2:List Nat):Bool:=(List.range l0.length).any (twP h l0 l2)
theorem twisted_any (w:World) (s N m c0 c2 m1 c1 m3 c3:Nat) (a0 a1 X a3:Option Addr) (l0 l2:List Nat) (h:Nat→Int) (hh:Hg w s N h) (K:IRow w a0 l0) (L:IRow w X l2) (hm:m=l0.length) (M:m=l2.length) (ab:m≤100000000) (F:∀ i∈l0,i<N) (G:∀ i∈l2,i<N) (hN:N≤300) :
  Rt 102 #[.agg #[.slice a0 m c0,.slice a1 m1 c1,.slice X m c2,.slice a3 m3 c3],ABv s] w (.bool (twB h l0 l2)):=by
 have a:=H8 K L hm M hh F G hN;clear K L hm M hh F G hN;obtain ⟨R,Z⟩:∃ R,R=twB h l0 l2:=⟨_,rfl⟩;rw [← Z];have W:=Hd Z;clear Z;unfold ABv;go_enter Tryz.func102,Tryz.ntmps102;go_upto_region 1 with fail
 refine Qi (fun z hW0=>?_);have t:Hid (Bl w z):=γ4;have p0:At z w.heap.size 0 (.slice a0 m c0):=ν;have p2:At z w.heap.size 2 (.slice X m c2):=ν;have z0:=Bt p0;clear hW0;obtain ⟨kc,kn⟩:=kcn z;refine wk ?_;repeat (go_big_quiet_step (fail))
 refine wpQuiet_nil ?_;intro wq r;obtain ⟨Q,b⟩:=r;have hq:Bl z wq:=b ▸ Q.h;have u:=Hd (Qc t.out hq);clear b Q kc kn hq t p0 p2 z0;go_wp2;go_loopg [17] m (fun Y a6 wx=>∃ i:Nat,i≤m∧Y=m - i∧a6=I (i:Int)∧Hid (∀ j,j<i→twP h l0 l2 j=false)∧Bl w wx)
 case atStart=>exact ⟨0,γ,rfl,rfl,fun j h=>by omega,u.out⟩
 case round =>
  clear u;obtain ⟨i,hi,rfl,rfl,O,E⟩:=hrel;have f:=Hd E;have x:=Hd O.out;clear E O;by_cases h1:i<m
  ·have i1:(i:Int)<(m:Int):=γ;have i0:(0:Int)≤(i:Int):=γ;go_wp2;go_loopg [21] i (fun Y a7 wx=>∃ j:Nat,j≤i∧Y=i - j∧a7=I (j:Int)∧Hid (∀ k,k<j→twQ h l0 l2 i k=false)∧Bl w wx)
   case atStart=>exact ⟨0,γ,rfl,rfl,fun j h=>by omega,f.out⟩
   case round =>
    clear f;obtain ⟨j,hj,rfl,rfl,P,E⟩:=hrel;have f:=Hd E;have n:=Hd P.out;clear E P;by_cases h2:j<i
    ·have j1:(j:Int)<(i:Int):=γ;have j0:(0:Int)≤(j:Int):=γ;have j2:(j:Int)<(m:Int):=γ;obtain ⟨g0,rfl,u0⟩:=(a.out.1.kept f.out) i (by have:=a.out.2.2.1;omega);obtain ⟨a8,H,u1⟩:=(a.out.1.kept f.out) j (by have:=a.out.2.2.1;omega);obtain ⟨g2,rfl,v0⟩:=(a.out.2.1.kept f.out) i (by have:=a.out.2.2.2.1;omega);obtain ⟨aa,J,v1⟩:=(a.out.2.1.kept f.out) j (by have:=a.out.2.2.2.1;omega);simp only [Option.some.injEq,Addr.mk.injEq,and_true] at H J;subst H J;have b0:=a.out.2.2.2.2.2.1 _ (Lm (show i<l0.length by have:=a.out.2.2.1;omega));have b1:=a.out.2.2.2.2.2.1 _ (Lm (show j<l0.length by have:=a.out.2.2.1;omega));have b2:=a.out.2.2.2.2.2.2.1 _ (Lm (show i<l2.length by have:=a.out.2.2.2.1;omega));have b3:=a.out.2.2.2.2.2.2.1 _ (Lm (show j<l2.length by have:=a.out.2.2.2.1;omega))
     have d:twQ h l0 l2 i j=(decide (h (l0[j]'(by have:=a.out.2.2.1;omega))<h (l0[i]'(by have:=a.out.2.2.1;omega))) != decide (h (l2[j]'(by have:=a.out.2.2.2.1;omega))<h (l2[i]'(by have:=a.out.2.2.2.1;omega)))):=by
      unfold twQ;rw [Qz l0 i (by have:=a.out.2.2.1;omega),Qz l0 j (by have:=a.out.2.2.1;omega),Qz l2 i (by have:=a.out.2.2.2.1;omega),Qz l2 j (by have:=a.out.2.2.2.1;omega)]
     generalize l0[i]'(by have:=a.out.2.2.1;omega)=A at u0 b0 d;generalize l0[j]'(by have:=a.out.2.2.1;omega)=B at u1 b1 d;generalize l2[i]'(by have:=a.out.2.2.2.1;omega)=C at v0 b2 d;generalize l2[j]'(by have:=a.out.2.2.2.1;omega)=D at v1 b3 d;obtain ⟨q1,o⟩:∃ q,q=decide (h B<h A):=⟨_,rfl⟩;obtain ⟨T,p⟩:∃ q,q=decide (h D<h C):=⟨_,rfl⟩;have C1:Hid (∀ V:World,Bl wr V→Rt 187 #[I (A:Int),I (B:Int),.pointer (Az s)] V (.bool q1)):=fun V hV=>by rw [o];exact Gj V s N A B h (a.out.2.2.2.2.1.kept (Qc f.out hV)) b0 b1 a.out.2.2.2.2.2.2.2
     have C2:Hid (∀ V:World,Bl wr V→Rt 187 #[I (C:Int),I (D:Int),.pointer (Az s)] V (.bool T)):=fun V hV=>by rw [p];exact Gj V s N C D h (a.out.2.2.2.2.1.kept (Qc f.out hV)) b2 b3 a.out.2.2.2.2.2.2.2
     have l:twQ h l0 l2 i j=(q1 != T):=by rw [d,o,p]
     have c:=Hd l;clear l o p d b0 b1 b2 b3;have y0:=Bt u0;have y2:=Bt v0;have v:Hid (i<l0.length):=by have:=a.out.2.2.1;exact (show i<l0.length by omega)
     go_upto_region 8 with fail
     obtain ⟨kc,kn⟩:=kcn wr;refine wk ?_;repeat (go_big_quiet_step ((first | (go_at_call 187;(with_reducible exact Qf (C1.out _ (Kin.h _)))) | (go_at_call 187;(with_reducible exact Qf (C2.out _ (Kin.h _)))) | fail)))
     refine wpQuiet_nil ?_;intro wz r;obtain ⟨Q,b⟩:=r;have hq:Bl wr wz:=b ▸ Q.h;have g:=Hd (Qc f.out hq);clear b Q kc kn hq C1 C2 u0 u1 v0 v1
     cases q1
     ·cases T
      ·have U:=Hd c.out;go_wp2;go_roundg (i - (j+1))
       case measure=>omega
       case rel =>
        refine ⟨j+1,γ,rfl,σ,fun k hk=>?_,g.out⟩;by_cases e:k=j
        ·subst e;exact U.out
        ·exact n.out k γ
      ·have y:Hid (R=true):=by
        have:R=true:=W.out.trans (Xv v.out (Xv h2 c.out));exact this
       go_wp2;try rw [Exit.noGoto_ret]
       try rw [Exit.noGoto_ret]
       go_ret;exact ⟨Qv y.out.symm,g.out⟩
     ·cases T
      ·have y:Hid (R=true):=by
        have:R=true:=W.out.trans (Xv v.out (Xv h2 c.out));exact this
       go_wp2;try rw [Exit.noGoto_ret]
       try rw [Exit.noGoto_ret]
       go_ret;exact ⟨Qv y.out.symm,g.out⟩
      ·have U:=Hd c.out;go_wp2;go_roundg (i - (j+1))
       case measure=>omega
       case rel =>
        refine ⟨j+1,γ,rfl,σ,fun k hk=>?_,g.out⟩;by_cases e:k=j
        ·subst e;exact U.out
        ·exact n.out k γ
    ·have j1:¬ (j:Int)<(i:Int):=γ;go_wp2;go_roundg (m - (i+1))
     case measure=>omega
     case rel =>
      refine ⟨i+1,γ,rfl,σ,fun k hk=>?_,f.out⟩;by_cases e:k=i
      ·subst e;exact Vp (fun q hq=>n.out q γ)
      ·exact x.out k γ
  ·have i1:¬ (i:Int)<(m:Int):=γ;have y:Hid (R=false):=by rw [W.out];exact Vp (fun j hj=>x.out j (by have:=a.out.2.2.1;omega))
   go_wp2;go_ret;exact ⟨Qv y.out.symm,f.out⟩
def MBx (w:World) (b:Nat) (a0 a1 a2 a3:Option Addr) (m0 c0 m1 c1 m2 c2 m3 c3:Nat):Prop:=At w b 0 (.slice a0 m0 c0)∧At w b 1 (.slice a1 m1 c1)∧At w b 2 (.slice a2 m2 c2)∧At w b 3 (.slice a3 m3 c3)
theorem either104_any (w:World) (j i f:Nat) (a0 a1 h a3:Option Addr) (l c0 m c1 n c2 o c3:Nat) (r0 r1:Bool) (k:At w j 0 (.func (.func 104) #[] #[])) (q:MBx w i a0 a1 h a3 l c0 m c1 n c2 o c3)
  (c:Hid (∀ V:World,Bl w V→Rt 104 #[.agg #[.slice a0 l c0,.slice a1 m c1],ABv f] V (.bool r0)))
  (g:Hid (∀ V:World,Bl w V→Rt 104 #[.agg #[.slice h n c2,.slice a3 o c3],ABv f] V (.bool r1))) :
  Rt 193 #[ABv f,.pointer (Az j),.pointer (Az i)] w (.bool (r0 || r1)):=by
 obtain ⟨p,x1,x2,x3⟩:=q;have v:=Bt k;have u:=Bt p;unfold ABv at c g ⊢
 cases r0
 ·go_enter Tryz.func193,Tryz.ntmps193;go_wp2_with (first | (go_at_call 104;(with_reducible refine (c.out _ (Qe _)).mono ?_);rintro e w1 ⟨rfl,a⟩;have s:=Qa a x2;have y1:=Qa a x3;have t:=Qa a k;have b:=Hd a;clear a p x1) | (go_at_call 104;(with_reducible refine (g.out _ b.out).mono ?_);rintro e r ⟨rfl,a⟩;have d:=Hd (Qc b.out a);clear a) | fail)
  go_ret;exact ⟨Qv ξ,d.out⟩
 ·go_enter Tryz.func193,Tryz.ntmps193;go_wp2_with (first | (go_at_call 104;(with_reducible refine (c.out _ (Qe _)).mono ?_);rintro e w1 ⟨rfl,a⟩;have b:=Hd a;clear a) | fail)
  go_ret;exact ⟨Qv ξ,b.out⟩
theorem Qay (w:World) (a0 a1 a a3:Option Addr) (b c0 c c1 d c2 f c3:Nat) :
  Cl 103 #[.agg #[.slice a0 b c0,.slice a1 c c1,.slice a d c2,.slice a3 f c3],.func (.func 104) #[] #[]] w fun e w'=>e=.returned (.func (.func 193) #[] #[.pointer (Az (w.heap.size+1)),.pointer (Az w.heap.size)])∧w'=(w.alloc (.cells #[.slice a0 b c0,.slice a1 c c1,.slice a d c2,.slice a3 f c3] 114)).alloc (.cells #[.func (.func 104) #[] #[]] 191):=by
 have g:=Jf;go_enter Tryz.func103,Tryz.ntmps103;go_wp2;go_ret;exact ⟨rfl,rfl⟩
theorem either105_any (w:World) (j i f:Nat) (a0 a1 h a3:Option Addr) (l c0 m c1 n c2 o c3:Nat) (r0 r1:Bool) (k:At w j 0 (.func (.func 105) #[] #[])) (q:MBx w i a0 a1 h a3 l c0 m c1 n c2 o c3)
  (c:Hid (∀ V:World,Bl w V→Rt 105 #[.agg #[.slice a0 l c0,.slice a1 m c1],ABv f] V (.bool r0)))
  (g:Hid (∀ V:World,Bl w V→Rt 105 #[.agg #[.slice h n c2,.slice a3 o c3],ABv f] V (.bool r1))) :
  Rt 193 #[ABv f,.pointer (Az j),.pointer (Az i)] w (.bool (r0 || r1)):=by
 obtain ⟨p,x1,x2,x3⟩:=q;have v:=Bt k;have u:=Bt p;unfold ABv at c g ⊢
 cases r0
 ·go_enter Tryz.func193,Tryz.ntmps193;go_wp2_with (first | (go_at_call 105;(with_reducible refine (c.out _ (Qe _)).mono ?_);rintro e w1 ⟨rfl,a⟩;have s:=Qa a x2;have y1:=Qa a x3;have t:=Qa a k;have b:=Hd a;clear a p x1) | (go_at_call 105;(with_reducible refine (g.out _ b.out).mono ?_);rintro e r ⟨rfl,a⟩;have d:=Hd (Qc b.out a);clear a) | fail)
  go_ret;exact ⟨Qv ξ,d.out⟩
 ·go_enter Tryz.func193,Tryz.ntmps193;go_wp2_with (first | (go_at_call 105;(with_reducible refine (c.out _ (Qe _)).mono ?_);rintro e w1 ⟨rfl,a⟩;have b:=Hd a;clear a) | fail)
  go_ret;exact ⟨Qv ξ,b.out⟩
theorem Qax (w:World) (a0 a1 a a3:Option Addr) (b c0 c c1 d c2 f c3:Nat) :
  Cl 103 #[.agg #[.slice a0 b c0,.slice a1 c c1,.slice a d c2,.slice a3 f c3],.func (.func 105) #[] #[]] w fun e w'=>e=.returned (.func (.func 193) #[] #[.pointer (Az (w.heap.size+1)),.pointer (Az w.heap.size)])∧w'=(w.alloc (.cells #[.slice a0 b c0,.slice a1 c c1,.slice a d c2,.slice a3 f c3] 114)).alloc (.cells #[.func (.func 105) #[] #[]] 191):=by
 have g:=Jf;go_enter Tryz.func103,Tryz.ntmps103;go_wp2;go_ret;exact ⟨rfl,rfl⟩
theorem either106_any (w:World) (j i f:Nat) (a0 a1 h a3:Option Addr) (l c0 m c1 n c2 o c3:Nat) (r0 r1:Bool) (k:At w j 0 (.func (.func 106) #[] #[])) (q:MBx w i a0 a1 h a3 l c0 m c1 n c2 o c3)
  (c:Hid (∀ V:World,Bl w V→Rt 106 #[.agg #[.slice a0 l c0,.slice a1 m c1],ABv f] V (.bool r0)))
  (g:Hid (∀ V:World,Bl w V→Rt 106 #[.agg #[.slice h n c2,.slice a3 o c3],ABv f] V (.bool r1))) :
  Rt 193 #[ABv f,.pointer (Az j),.pointer (Az i)] w (.bool (r0 || r1)):=by
 obtain ⟨p,x1,x2,x3⟩:=q;have v:=Bt k;have u:=Bt p;unfold ABv at c g ⊢
 cases r0
 ·go_enter Tryz.func193,Tryz.ntmps193;go_wp2_with (first | (go_at_call 106;(with_reducible refine (c.out _ (Qe _)).mono ?_);rintro e w1 ⟨rfl,a⟩;have s:=Qa a x2;have y1:=Qa a x3;have t:=Qa a k;have b:=Hd a;clear a p x1) | (go_at_call 106;(with_reducible refine (g.out _ b.out).mono ?_);rintro e r ⟨rfl,a⟩;have d:=Hd (Qc b.out a);clear a) | fail)
  go_ret;exact ⟨Qv ξ,d.out⟩
 ·go_enter Tryz.func193,Tryz.ntmps193;go_wp2_with (first | (go_at_call 106;(with_reducible refine (c.out _ (Qe _)).mono ?_);rintro e w1 ⟨rfl,a⟩;have b:=Hd a;clear a) | fail)
  go_ret;exact ⟨Qv ξ,b.out⟩
theorem Qaw (w:World) (a0 a1 a a3:Option Addr) (b c0 c c1 d c2 f c3:Nat) :
  Cl 103 #[.agg #[.slice a0 b c0,.slice a1 c c1,.slice a d c2,.slice a3 f c3],.func (.func 106) #[] #[]] w fun e w'=>e=.returned (.func (.func 193) #[] #[.pointer (Az (w.heap.size+1)),.pointer (Az w.heap.size)])∧w'=(w.alloc (.cells #[.slice a0 b c0,.slice a1 c c1,.slice a d c2,.slice a3 f c3] 114)).alloc (.cells #[.func (.func 106) #[] #[]] 191):=by
 have g:=Jf;go_enter Tryz.func103,Tryz.ntmps103;go_wp2;go_ret;exact ⟨rfl,rfl⟩
def clN (R:Nat→Bool):Nat→List Nat
 | 0=>[]
 | i+1=>clN R i ++ if R i then [i+1] else []
theorem Ug (R:Nat→Bool):∀ i,(clN R i).length≤i
 | 0=>Nr _
 | i+1=>by
  have:=Ug R i;unfold clN;rw [List.length_append];split <;> simp <;> omega
structure RB (w wx:World) (g b1 d1 b2 d2 b3 d3:Nat) (a0 a1 a2 a3:Option Addr) (m0 c0 m1 c1 m2 c2 m3 c3:Nat):Prop where
 k0:At wx g 0 (I 1)
 f0:At wx g 1 (.func (.func 102) #[.agg #[.slice a0 m0 c0,.slice a1 m1 c1,.slice a2 m2 c2,.slice a3 m3 c3]] #[])
 k1:At wx g 2 (I 2)
 f1:At wx g 3 (.func (.func 193) #[] #[.pointer (Az d1),.pointer (Az b1)])
 x1:MBx wx b1 a0 a1 a2 a3 m0 c0 m1 c1 m2 c2 m3 c3
 y1:At wx d1 0 (.func (.func 104) #[] #[])
 k2:At wx g 4 (I 3)
 f2:At wx g 5 (.func (.func 193) #[] #[.pointer (Az d2),.pointer (Az b2)])
 x2:MBx wx b2 a0 a1 a2 a3 m0 c0 m1 c1 m2 c2 m3 c3
 y2:At wx d2 0 (.func (.func 105) #[] #[])
 k3:At wx g 6 (I 4)
 f3:At wx g 7 (.func (.func 193) #[] #[.pointer (Az d3),.pointer (Az b3)])
 x3:MBx wx b3 a0 a1 a2 a3 m0 c0 m1 c1 m2 c2 m3 c3
 y3:At wx d3 0 (.func (.func 106) #[] #[])
 bl:Bl w wx
theorem own_leR {base' e:Nat} {d:List Value} (h:w.ownsRow base e k v n d) (f:base'≤base):w.ownsRow base' e k v n d:=by
 obtain ⟨c,h0 | ⟨g,a,b,hv,h1,h2⟩⟩:=h
 ·exact ⟨c,Or.inl h0⟩
 ·exact ⟨c,Or.inr ⟨g,a,b,hv,Nt f h1,h2⟩⟩
theorem clashes_any (w:World) (A:Nat) (a0 a1 J a3:Option Addr) (K c0 L c1 M c2 N c3:Nat) (R:Nat→Bool) (Q W T X U Y:Bool) (e1:R 1=(Q || W)) (e2:R 2=(T || X)) (e3:R 3=(U || Y))
  (C0:Hid (∀ V:World,Bl w V→Rt 102 #[.agg #[.slice a0 K c0,.slice a1 L c1,.slice J M c2,.slice a3 N c3],ABv A] V (.bool (R 0))))
  (C:Hid (∀ V:World,Bl w V→Rt 104 #[.agg #[.slice a0 K c0,.slice a1 L c1],ABv A] V (.bool Q)))
  (F:Hid (∀ V:World,Bl w V→Rt 104 #[.agg #[.slice J M c2,.slice a3 N c3],ABv A] V (.bool W)))
  (D:Hid (∀ V:World,Bl w V→Rt 105 #[.agg #[.slice a0 K c0,.slice a1 L c1],ABv A] V (.bool T)))
  (G:Hid (∀ V:World,Bl w V→Rt 105 #[.agg #[.slice J M c2,.slice a3 N c3],ABv A] V (.bool X)))
  (E:Hid (∀ V:World,Bl w V→Rt 106 #[.agg #[.slice a0 K c0,.slice a1 L c1],ABv A] V (.bool U)))
  (H:Hid (∀ V:World,Bl w V→Rt 106 #[.agg #[.slice J M c2,.slice a3 N c3],ABv A] V (.bool Y)))
  :
  Cl 39 #[.agg #[.slice a0 K c0,.slice a1 L c1,.slice J M c2,.slice a3 N c3],ABv A] w fun e w'=>∃ a c,e=.returned (.slice a (clN R 4).length c)∧w'.ownsRow w.heap.size 3 1 (.slice a (clN R 4).length c) (clN R 4).length (nV (clN R 4))∧Bl w w':=by
 obtain ⟨i3,ad,a6,a7,a8⟩:=info_parts inf3;have y:=H4 ad a6 a7 a8;have x:=H3 e1 e2 e3;clear ad a6 a7 a8 e1 e2 e3;have ag:=Jf;unfold ABv at C0 C F D G E H ⊢;go_enter Tryz.func39,Tryz.ntmps39;go_upto_region 2 with fail
 go_cut [20,21,22] (fun ae af aa wx=>∃ g b1 d1 b2 d2 b3 d3:Nat,ae=.slice (Az g) 4 4∧af=I 4∧aa=I 0∧RB w wx g b1 d1 b2 d2 b3 d3 a0 a1 J a3 K c0 L c1 M c2 N c3)
 case first =>
  clear C0 C F D G E H x y
  go_region_held3 (fun w'=>At w' w.heap.size 0 (.slice a0 K c0)∧At w' w.heap.size 1 (.slice a1 L c1)∧At w' w.heap.size 2 (.slice J M c2)∧At w' w.heap.size 3 (.slice a3 N c3))
   (simp [go_sem,Ca])
   (first | (go_at_call 103;(with_reducible refine (Qay _ _ _ _ _ _ _ _ _ _ _ _ _).mono ?_);rintro e w2 ⟨rfl,rfl⟩) | (go_at_call 103;(with_reducible refine (Qax _ _ _ _ _ _ _ _ _ _ _ _ _).mono ?_);rintro e w2 ⟨rfl,rfl⟩) | (go_at_call 103;(with_reducible refine (Qaw _ _ _ _ _ _ _ _ _ _ _ _ _).mono ?_);rintro e w2 ⟨rfl,rfl⟩) | fail)
  all_goals
   go_wp2;go_meet
   case rel =>
    first | (refine ⟨_,w.heap.size+1,w.heap.size+1+1,w.heap.size+1+1+1,w.heap.size+1+1+1+1,w.heap.size+1+1+1+1+1,w.heap.size+1+1+1+1+1+1,rfl,rfl,rfl, ?_⟩;(constructor <;> first | (simp [go_sem,Ca];done) | (refine ⟨?_, ?_, ?_, ?_⟩ <;> (simp [go_sem,Ca];done)) | ((with_reducible repeat' (first | exact Qe _ | refine Qb ?_ | refine Qg ?_ | refine Qh ?_ ?_)) <;> (first | omega | (simp;done) | (simp;omega))))) | (refine ⟨_,w.heap.size+1,w.heap.size+1+1,w.heap.size+1+1+1+1+1,w.heap.size+1+1+1+1+1+1,w.heap.size+1+1+1,w.heap.size+1+1+1+1,rfl,rfl,rfl, ?_⟩;(constructor <;> first | (simp [go_sem,Ca];done) | (refine ⟨?_, ?_, ?_, ?_⟩ <;> (simp [go_sem,Ca];done)) | ((with_reducible repeat' (first | exact Qe _ | refine Qb ?_ | refine Qg ?_ | refine Qh ?_ ?_)) <;> (first | omega | (simp;done) | (simp;omega))))) | (refine ⟨_,w.heap.size+1+1+1,w.heap.size+1+1+1+1,w.heap.size+1,w.heap.size+1+1,w.heap.size+1+1+1+1+1,w.heap.size+1+1+1+1+1+1,rfl,rfl,rfl, ?_⟩;(constructor <;> first | (simp [go_sem,Ca];done) | (refine ⟨?_, ?_, ?_, ?_⟩ <;> (simp [go_sem,Ca];done)) | ((with_reducible repeat' (first | exact Qe _ | refine Qb ?_ | refine Qg ?_ | refine Qh ?_ ?_)) <;> (first | omega | (simp;done) | (simp;omega))))) | (refine ⟨_,w.heap.size+1+1+1,w.heap.size+1+1+1+1,w.heap.size+1+1+1+1+1,w.heap.size+1+1+1+1+1+1,w.heap.size+1,w.heap.size+1+1,rfl,rfl,rfl, ?_⟩;(constructor <;> first | (simp [go_sem,Ca];done) | (refine ⟨?_, ?_, ?_, ?_⟩ <;> (simp [go_sem,Ca];done)) | ((with_reducible repeat' (first | exact Qe _ | refine Qb ?_ | refine Qg ?_ | refine Qh ?_ ?_)) <;> (first | omega | (simp;done) | (simp;omega))))) | (refine ⟨_,w.heap.size+1+1+1+1+1,w.heap.size+1+1+1+1+1+1,w.heap.size+1,w.heap.size+1+1,w.heap.size+1+1+1,w.heap.size+1+1+1+1,rfl,rfl,rfl, ?_⟩;(constructor <;> first | (simp [go_sem,Ca];done) | (refine ⟨?_, ?_, ?_, ?_⟩ <;> (simp [go_sem,Ca];done)) | ((with_reducible repeat' (first | exact Qe _ | refine Qb ?_ | refine Qg ?_ | refine Qh ?_ ?_)) <;> (first | omega | (simp;done) | (simp;omega))))) | (refine ⟨_,w.heap.size+1+1+1+1+1,w.heap.size+1+1+1+1+1+1,w.heap.size+1+1+1,w.heap.size+1+1+1+1,w.heap.size+1,w.heap.size+1+1,rfl,rfl,rfl, ?_⟩;(constructor <;> first | (simp [go_sem,Ca];done) | (refine ⟨?_, ?_, ?_, ?_⟩ <;> (simp [go_sem,Ca];done)) | ((with_reducible repeat' (first | exact Qe _ | refine Qb ?_ | refine Qg ?_ | refine Qh ?_ ?_)) <;> (first | omega | (simp;done) | (simp;omega)))))
 case rest =>
  obtain ⟨g,b1,d1,b2,d2,b3,d3,rfl,rfl,rfl,hW⟩:=hcut;have m:=Hd hW;have zg:=Bt hW.k0;have zw:w.heap.size≤wc.heap.size:=hW.bl.size;have E0:Hid (∀ V:World,Bl wc V→Rt 102 #[.agg #[.slice a0 K c0,.slice a1 L c1,.slice J M c2,.slice a3 N c3],.func (.func 187) #[] #[.pointer (Az A)]] V (.bool (R 0))):=fun V o=>C0.out V (Qc m.out.bl o)
  have E1:Hid (∀ V:World,Bl wc V→Rt 193 #[.func (.func 187) #[] #[.pointer (Az A)],.pointer (Az d1),.pointer (Az b1)] V (.bool (R 1))):=fun V o=>by
   have:=either104_any V d1 b1 A a0 a1 J a3 K c0 L c1 M c2 N c3 Q W (Qa o m.out.y1) ⟨Qa o m.out.x1.1,Qa o m.out.x1.2.1,Qa o m.out.x1.2.2.1,Qa o m.out.x1.2.2.2⟩ (fun O t=>C.out O (Qc (Qc m.out.bl o) t)) (fun O t=>F.out O (Qc (Qc m.out.bl o) t));rw [x.out.1];exact this
  have E2:Hid (∀ V:World,Bl wc V→Rt 193 #[.func (.func 187) #[] #[.pointer (Az A)],.pointer (Az d2),.pointer (Az b2)] V (.bool (R 2))):=fun V o=>by
   have:=either105_any V d2 b2 A a0 a1 J a3 K c0 L c1 M c2 N c3 T X (Qa o m.out.y2) ⟨Qa o m.out.x2.1,Qa o m.out.x2.2.1,Qa o m.out.x2.2.2.1,Qa o m.out.x2.2.2.2⟩ (fun O t=>D.out O (Qc (Qc m.out.bl o) t)) (fun O t=>G.out O (Qc (Qc m.out.bl o) t));rw [x.out.2.1];exact this
  have E3:Hid (∀ V:World,Bl wc V→Rt 193 #[.func (.func 187) #[] #[.pointer (Az A)],.pointer (Az d3),.pointer (Az b3)] V (.bool (R 3))):=fun V o=>by
   have:=either106_any V d3 b3 A a0 a1 J a3 K c0 L c1 M c2 N c3 U Y (Qa o m.out.y3) ⟨Qa o m.out.x3.1,Qa o m.out.x3.2.1,Qa o m.out.x3.2.2.1,Qa o m.out.x3.2.2.2⟩ (fun O t=>E.out O (Qc (Qc m.out.bl o) t)) (fun O t=>H.out O (Qc (Qc m.out.bl o) t));rw [x.out.2.2];exact this
  clear hW C0 C F D G E H x;go_wp2;go_loopg [5,22] 4 (fun gk s5 aa wx=>∃ (i:Nat) (u:Value),i≤4∧gk=4 - i∧u=s5∧aa=I (i:Int)∧wx.ownsRow wc.heap.size 3 1 u (clN R i).length (nV (clN R i))∧Bl wc wx)
  case atStart=>exact ⟨0,_,γ,rfl,rfl,rfl,World.ownsRow_nil _ _ _ _,Qe _⟩
  case round =>
   obtain ⟨i,u,hi,rfl,rfl,hs,hO,hB⟩:=hrel;have p:=H2 hO hB;have zr:wc.heap.size≤wr.heap.size:=hB.size;clear hO hB;rcases (show i=0∨i=1∨i=2∨i=3∨i=4 by omega) with rfl | rfl | rfl | rfl | rfl
   ·replace hs:_=I 0:=hs;subst hs;have k0:=Qa p.out.2 m.out.k0;have k1:=Qa p.out.2 m.out.f0;have ac:g<wr.heap.size:=γ;have x:Hid (clN R (0+1)=clN R 0 ++ if R 0 then [0+1] else []):=rfl;have P:=Ug R 0;go_upto_region 5 with fail
    refine Qi (fun z j=>?_);have v0:At z wr.heap.size 0 (I 1):=by rw [j];simp [go_sem]
    have v1:At z wr.heap.size 1 (.func (.func 102) #[.agg #[.slice a0 K c0,.slice a1 L c1,.slice J M c2,.slice a3 N c3]] #[]):=by rw [j];simp [go_sem]
    have n:Bl wr z:=by
     rw [j];(with_reducible repeat' (first | exact Qe _ | refine Qb ?_ | refine Qg ?_ | refine Qh ?_ ?_)) <;> (first | omega | (simp;done) | (simp;omega))
    have f:=H2 (Qj p.out.1 n) (Qc p.out.2 n);have z5:=Bt v0;clear j n k0 k1 p;generalize hr:R 0=r at x E0
    cases r
    ·go_wp2_with (go_at_call 102;(with_reducible refine (E0.out _ f.out.2).mono ?_);rintro e B ⟨rfl,b⟩;have d:=H2 (Qj f.out.1 b) (Qc f.out.2 b);clear b)
     go_roundg (4 - (0+1))
     case measure=>omega
     case rel =>
      refine ⟨0+1,_,γ,rfl,rfl,rfl, ?_,d.out.2⟩;have e:clN R (0+1)=clN R 0:=by rw [x.out];simp
      rw [e];exact d.out.1
    ·go_wp2_with (first
      | (go_at_call 102;(with_reducible refine (E0.out _ f.out.2).mono ?_);rintro e B ⟨rfl,b⟩;have ab:=Qa b v0;have z6:=b.size;have d:=H2 (Qj f.out.1 b) (Qc f.out.2 b);clear b)
      | (at_builtin;refine wpList_append_own _ rfl (.tmp 30) (.tmp 33) 22 rfl wc.heap.size 3 i3 (I 0) 1 8 Tryz.underlying22 y.out.1 y.out.2.1 y.out.2.2.1 y.out.2.2.2 rfl ψ u (clN R 0).length (nV (clN R 0)) rfl (Qj d.out.1 β1) ⟨B.heap.size,0,none⟩ 1 1 [I 1] rfl rfl (Yc B _ _) (by intro q hq;simp at hq;subst hq;rfl) Ξ γ ω ?grow))
     case grow =>
      intro u' Z l h _
      have s:Hid (Z.ownsRow wc.heap.size 3 1 u' (clN R (0+1)).length (nV (clN R (0+1)))∧Bl wc Z):=by
       refine ⟨?_, ?_⟩
       ·rw [x.out,if_pos trivial,Vs,List.length_append];exact l
       ·exact (Qb d.out.2).grown h (Qb d.out.2).size (fun k hk=>Qw d.out.1 k hk)
      clear l h;go_wp2;go_roundg (4 - (0+1))
      case measure=>omega
      case rel=>exact ⟨0+1,_,γ,rfl,rfl,rfl,s.out.1,s.out.2⟩
   ·replace hs:_=I 1:=hs;subst hs;have k0:=Qa p.out.2 m.out.k1;have k1:=Qa p.out.2 m.out.f1;have ac:g<wr.heap.size:=γ;have x:Hid (clN R (1+1)=clN R 1 ++ if R 1 then [1+1] else []):=rfl;have P:=Ug R 1;go_upto_region 5 with fail
    refine Qi (fun z j=>?_);have v0:At z wr.heap.size 0 (I 2):=by rw [j];simp [go_sem]
    have v1:At z wr.heap.size 1 (.func (.func 193) #[] #[.pointer (Az d1),.pointer (Az b1)]):=by rw [j];simp [go_sem]
    have n:Bl wr z:=by
     rw [j];(with_reducible repeat' (first | exact Qe _ | refine Qb ?_ | refine Qg ?_ | refine Qh ?_ ?_)) <;> (first | omega | (simp;done) | (simp;omega))
    have f:=H2 (Qj p.out.1 n) (Qc p.out.2 n);have z5:=Bt v0;clear j n k0 k1 p;generalize hr:R 1=r at x E1
    cases r
    ·go_wp2_with (go_at_call 193;(with_reducible refine (E1.out _ f.out.2).mono ?_);rintro e B ⟨rfl,b⟩;have d:=H2 (Qj f.out.1 b) (Qc f.out.2 b);clear b)
     go_roundg (4 - (1+1))
     case measure=>omega
     case rel =>
      refine ⟨1+1,_,γ,rfl,rfl,rfl, ?_,d.out.2⟩;have e:clN R (1+1)=clN R 1:=by rw [x.out];simp
      rw [e];exact d.out.1
    ·go_wp2_with (first
      | (go_at_call 193;(with_reducible refine (E1.out _ f.out.2).mono ?_);rintro e B ⟨rfl,b⟩;have ab:=Qa b v0;have z6:=b.size;have d:=H2 (Qj f.out.1 b) (Qc f.out.2 b);clear b)
      | (at_builtin;refine wpList_append_own _ rfl (.tmp 30) (.tmp 33) 22 rfl wc.heap.size 3 i3 (I 0) 1 8 Tryz.underlying22 y.out.1 y.out.2.1 y.out.2.2.1 y.out.2.2.2 rfl ψ u (clN R 1).length (nV (clN R 1)) rfl (Qj d.out.1 β1) ⟨B.heap.size,0,none⟩ 1 1 [I 2] rfl rfl (Yc B _ _) (by intro q hq;simp at hq;subst hq;rfl) Ξ γ ω ?grow))
     case grow =>
      intro u' Z l h _
      have s:Hid (Z.ownsRow wc.heap.size 3 1 u' (clN R (1+1)).length (nV (clN R (1+1)))∧Bl wc Z):=by
       refine ⟨?_, ?_⟩
       ·rw [x.out,if_pos trivial,Vs,List.length_append];exact l
       ·exact (Qb d.out.2).grown h (Qb d.out.2).size (fun k hk=>Qw d.out.1 k hk)
      clear l h;go_wp2;go_roundg (4 - (1+1))
      case measure=>omega
      case rel=>exact ⟨1+1,_,γ,rfl,rfl,rfl,s.out.1,s.out.2⟩
   ·replace hs:_=I 2:=hs;subst hs;have k0:=Qa p.out.2 m.out.k2;have k1:=Qa p.out.2 m.out.f2;have ac:g<wr.heap.size:=γ;have x:Hid (clN R (2+1)=clN R 2 ++ if R 2 then [2+1] else []):=rfl;have P:=Ug R 2;go_upto_region 5 with fail
    refine Qi (fun z j=>?_);have v0:At z wr.heap.size 0 (I 3):=by rw [j];simp [go_sem]
    have v1:At z wr.heap.size 1 (.func (.func 193) #[] #[.pointer (Az d2),.pointer (Az b2)]):=by rw [j];simp [go_sem]
    have n:Bl wr z:=by
     rw [j];(with_reducible repeat' (first | exact Qe _ | refine Qb ?_ | refine Qg ?_ | refine Qh ?_ ?_)) <;> (first | omega | (simp;done) | (simp;omega))
    have f:=H2 (Qj p.out.1 n) (Qc p.out.2 n);have z5:=Bt v0;clear j n k0 k1 p;generalize hr:R 2=r at x E2
    cases r
    ·go_wp2_with (go_at_call 193;(with_reducible refine (E2.out _ f.out.2).mono ?_);rintro e B ⟨rfl,b⟩;have d:=H2 (Qj f.out.1 b) (Qc f.out.2 b);clear b)
     go_roundg (4 - (2+1))
     case measure=>omega
     case rel =>
      refine ⟨2+1,_,γ,rfl,rfl,rfl, ?_,d.out.2⟩;have e:clN R (2+1)=clN R 2:=by rw [x.out];simp
      rw [e];exact d.out.1
    ·go_wp2_with (first
      | (go_at_call 193;(with_reducible refine (E2.out _ f.out.2).mono ?_);rintro e B ⟨rfl,b⟩;have ab:=Qa b v0;have z6:=b.size;have d:=H2 (Qj f.out.1 b) (Qc f.out.2 b);clear b)
      | (at_builtin;refine wpList_append_own _ rfl (.tmp 30) (.tmp 33) 22 rfl wc.heap.size 3 i3 (I 0) 1 8 Tryz.underlying22 y.out.1 y.out.2.1 y.out.2.2.1 y.out.2.2.2 rfl ψ u (clN R 2).length (nV (clN R 2)) rfl (Qj d.out.1 β1) ⟨B.heap.size,0,none⟩ 1 1 [I 3] rfl rfl (Yc B _ _) (by intro q hq;simp at hq;subst hq;rfl) Ξ γ ω ?grow))
     case grow =>
      intro u' Z l h _
      have s:Hid (Z.ownsRow wc.heap.size 3 1 u' (clN R (2+1)).length (nV (clN R (2+1)))∧Bl wc Z):=by
       refine ⟨?_, ?_⟩
       ·rw [x.out,if_pos trivial,Vs,List.length_append];exact l
       ·exact (Qb d.out.2).grown h (Qb d.out.2).size (fun k hk=>Qw d.out.1 k hk)
      clear l h;go_wp2;go_roundg (4 - (2+1))
      case measure=>omega
      case rel=>exact ⟨2+1,_,γ,rfl,rfl,rfl,s.out.1,s.out.2⟩
   ·replace hs:_=I 3:=hs;subst hs;have k0:=Qa p.out.2 m.out.k3;have k1:=Qa p.out.2 m.out.f3;have ac:g<wr.heap.size:=γ;have x:Hid (clN R (3+1)=clN R 3 ++ if R 3 then [3+1] else []):=rfl;have P:=Ug R 3;go_upto_region 5 with fail
    refine Qi (fun z j=>?_);have v0:At z wr.heap.size 0 (I 4):=by rw [j];simp [go_sem]
    have v1:At z wr.heap.size 1 (.func (.func 193) #[] #[.pointer (Az d3),.pointer (Az b3)]):=by rw [j];simp [go_sem]
    have n:Bl wr z:=by
     rw [j];(with_reducible repeat' (first | exact Qe _ | refine Qb ?_ | refine Qg ?_ | refine Qh ?_ ?_)) <;> (first | omega | (simp;done) | (simp;omega))
    have f:=H2 (Qj p.out.1 n) (Qc p.out.2 n);have z5:=Bt v0;clear j n k0 k1 p;generalize hr:R 3=r at x E3
    cases r
    ·go_wp2_with (go_at_call 193;(with_reducible refine (E3.out _ f.out.2).mono ?_);rintro e B ⟨rfl,b⟩;have d:=H2 (Qj f.out.1 b) (Qc f.out.2 b);clear b)
     go_roundg (4 - (3+1))
     case measure=>omega
     case rel =>
      refine ⟨3+1,_,γ,rfl,rfl,rfl, ?_,d.out.2⟩;have e:clN R (3+1)=clN R 3:=by rw [x.out];simp
      rw [e];exact d.out.1
    ·go_wp2_with (first
      | (go_at_call 193;(with_reducible refine (E3.out _ f.out.2).mono ?_);rintro e B ⟨rfl,b⟩;have ab:=Qa b v0;have z6:=b.size;have d:=H2 (Qj f.out.1 b) (Qc f.out.2 b);clear b)
      | (at_builtin;refine wpList_append_own _ rfl (.tmp 30) (.tmp 33) 22 rfl wc.heap.size 3 i3 (I 0) 1 8 Tryz.underlying22 y.out.1 y.out.2.1 y.out.2.2.1 y.out.2.2.2 rfl ψ u (clN R 3).length (nV (clN R 3)) rfl (Qj d.out.1 β1) ⟨B.heap.size,0,none⟩ 1 1 [I 4] rfl rfl (Yc B _ _) (by intro q hq;simp at hq;subst hq;rfl) Ξ γ ω ?grow))
     case grow =>
      intro u' Z l h _
      have s:Hid (Z.ownsRow wc.heap.size 3 1 u' (clN R (3+1)).length (nV (clN R (3+1)))∧Bl wc Z):=by
       refine ⟨?_, ?_⟩
       ·rw [x.out,if_pos trivial,Vs,List.length_append];exact l
       ·exact (Qb d.out.2).grown h (Qb d.out.2).size (fun k hk=>Qw d.out.1 k hk)
      clear l h;go_wp2;go_roundg (4 - (3+1))
      case measure=>omega
      case rel=>exact ⟨3+1,_,γ,rfl,rfl,rfl,s.out.1,s.out.2⟩
   ·replace hs:_=I 4:=hs;subst hs;obtain ⟨a,c,rfl,_⟩:=Xi p.out.1;go_wp2;exact bodyPost_ret (v:=.slice a (clN R 4).length c) (by simp [results,Tryz.results39,go_sem]) rfl ⟨a,c,rfl,own_leR p.out.1 m.out.bl.size,Qc m.out.bl p.out.2⟩
theorem inf271:(Tryz.prog.info? 271).map (fun i=>(i.zero,i.size,i.bytes))=some (some (.agg #[I 0,I 0]),2,16):=η
theorem Gh (w:World) (T:TypeId) (a b:Int):∀ j u,([I a,I b])[j]?=some u→(w.alloc (.cells #[I a,I b] T)).cell? ((⟨w.heap.size,0,none⟩:Addr).add j)=some u:=by
 intro j u c;match j with
 | 0=>simp at c;subst c;simp [go_sem,Addr.add]
 | 1=>simp at c;subst c;simp [go_sem,Addr.add]
 | j+2=>simp at c
theorem two_one (a b:Int):∀ u ∈ [I a,I b],u.oneCell'=true:=by
 intro u c;simp at c;rcases c with rfl | rfl <;> rfl
theorem met_fold (w:World) (base n W Z rk gm cm pc:Nat) (U pa a0 a1 a2 a3:Option Addr) (c0 c1 c2 c3:Nat) (p q r s A B C E:Int) (i j Y lo hi:Nat) (kd:Int) (D:MD) (hO:Ow w base (.slice a0 D.a0.length c0) (.slice a1 D.b0.length c1) (.slice a2 D.a1.length c2) (.slice a3 D.b1.length c3) D) (hb:base≤w.heap.size) (hn:Y=0∨Y=1) (hk:kd≠0) (h1:D.b0.length≤100000000) (h2:D.b1.length≤100000000)
  (CS:Hid (∀ V:World,Bl w V→Rt 190 #[.agg #[.slice U n W,.map (some Z),.map (some rk),.slice (Az gm) n cm,.slice pa n pc],.agg #[I p,I q,I r,I s],I (i:Int)] V (I (Y:Int))))
  (CK:Hid (∀ V:World,Bl w V→Rt 191 #[.agg #[.slice U n W,.map (some Z),.map (some rk)],.agg #[I A,I B,I C,I E]] V (I kd)))
  (CF:Hid (∀ V:World,Bl w V→Rt 192 #[.agg #[.slice U n W,.map (some Z),.map (some rk),.slice (Az gm) n cm,.slice pa n pc],I kd,I (i:Int),I (j:Int)] V (.agg #[I (lo:Int),I (hi:Int)]))) :
  Cl 101 #[.agg #[.slice U n W,.map (some Z),.map (some rk),.slice (Az gm) n cm,.slice pa n pc],.agg #[.slice a0 D.a0.length c0,.slice a1 D.b0.length c1,.slice a2 D.a1.length c2,.slice a3 D.b1.length c3],.agg #[I p,I q,I r,I s],I (i:Int),.agg #[I A,I B,I C,I E,I (j:Int)]] w fun e w'=>MtTo w w' base (.slice a0 D.a0.length c0) (.slice a1 D.b0.length c1) (.slice a2 D.a1.length c2) (.slice a3 D.b1.length c3) (mtF D Y (lo,hi)) e:=by
 have T:=H2 hO hb;obtain ⟨aw,hi,ar,au,av⟩:=info_parts inf271;have HI:=H4 hi ar au av;clear hO hb hi ar au av;have qk:(kd != 0)=true:=by simpa using hk
 clear hk;go_enter Tryz.func101,Tryz.ntmps101;go_upto_region 1 with fail
 refine Qi (fun l hW0=>?_)
 have ak:Hid (Bl w l):=by
  rw [hW0];exact Qb β4
 have p0:At l w.heap.size 0 (.slice U n W):=ν;have p1:At l w.heap.size 1 (.map (some Z)):=ν;have p2:At l w.heap.size 2 (.map (some rk)):=ν;have p3:At l w.heap.size 3 (.slice (Az gm) n cm):=ν;have p4:At l w.heap.size 4 (.slice pa n pc):=ν;have m0:At l (w.heap.size+1) 0 (.slice a0 D.a0.length c0):=ν;have m1:At l (w.heap.size+1) 1 (.slice a1 D.b0.length c1):=ν;have m2:At l (w.heap.size+1) 2 (.slice a2 D.a1.length c2):=ν;have m3:At l (w.heap.size+1) 3 (.slice a3 D.b1.length c3):=ν;have jt:At l (w.heap.size+1+1+1) 4 (I (j:Int)):=ν;have r0:At l (w.heap.size+1+1+1+1) 0 SN:=ν;have r1:At l (w.heap.size+1+1+1+1) 1 SN:=ν;have r2:At l (w.heap.size+1+1+1+1) 2 SN:=ν;have r3:At l (w.heap.size+1+1+1+1) 3 SN:=ν;have f0:l.frozen? ⟨w.heap.size+1+1+1+1,0,none⟩=false:=ν;have g0:l.frozen? ⟨w.heap.size+1,0,none⟩=false:=ν;have f1:l.frozen? ⟨w.heap.size+1+1+1+1,1,none⟩=false:=ν;have g1:l.frozen? ⟨w.heap.size+1,1,none⟩=false:=ν;have f2:l.frozen? ⟨w.heap.size+1+1+1+1,2,none⟩=false:=ν;have g2:l.frozen? ⟨w.heap.size+1,2,none⟩=false:=ν;have f3:l.frozen? ⟨w.heap.size+1+1+1+1,3,none⟩=false:=ν;have g3:l.frozen? ⟨w.heap.size+1,3,none⟩=false:=ν;have q0:At l (w.heap.size+1+1) 0 (I p):=ν;have q1:At l (w.heap.size+1+1) 1 (I q):=ν;have q2:At l (w.heap.size+1+1) 2 (I r):=ν;have q3:At l (w.heap.size+1+1) 3 (I s):=ν;have j0:At l (w.heap.size+1+1+1) 0 (I A):=ν;have j1:At l (w.heap.size+1+1+1) 1 (I B):=ν;have j2:At l (w.heap.size+1+1+1) 2 (I C):=ν;have j3:At l (w.heap.size+1+1+1) 3 (I E):=ν;have z0:l.heap.size=w.heap.size+5:=by rw [hW0];simp
 clear hW0;have aq:Hid (∀ V:World,Bl l V→Rt 190 #[.agg #[.slice U n W,.map (some Z),.map (some rk),.slice (Az gm) n cm,.slice pa n pc],.agg #[I p,I q,I r,I s],I (i:Int)] V (I (Y:Int))):=fun V F=>CS.out V (Qc ak.out F);have ap:Hid (∀ V:World,Bl l V→Rt 191 #[.agg #[.slice U n W,.map (some Z),.map (some rk)],.agg #[I A,I B,I C,I E]] V (I kd)):=fun V F=>CK.out V (Qc ak.out F);obtain ⟨kc,kn⟩:=kcn l;have y0:w.heap.size<l.heap.size:=γ;have y1:w.heap.size+1+1<l.heap.size:=γ;have y2:w.heap.size+1+1+1<l.heap.size:=γ;refine wk ?_;repeat (go_big_quiet_step ((first | (go_at_call 190;exact Qf (aq.out _ (Kin.h _))) | (go_at_call 191;exact Qf (ap.out _ (Kin.h _))) | fail)))
 refine kq1 (fun wq hq=>?_);clear kc kn aq ap CS CK q0 q1 q2 q3 j0 j1 j2 j3;replace p0:=Qa hq p0;replace p1:=Qa hq p1;replace p2:=Qa hq p2;replace p3:=Qa hq p3;replace p4:=Qa hq p4;replace m0:=Qa hq m0;replace m1:=Qa hq m1;replace m2:=Qa hq m2;replace m3:=Qa hq m3;replace jt:=Qa hq jt;replace r0:=Qa hq r0;replace r1:=Qa hq r1;replace r2:=Qa hq r2;replace r3:=Qa hq r3;replace f0:Fn wq (w.heap.size+1+1+1+1) 0:=(hq.frozen θ).trans f0;replace g0:Fn wq (w.heap.size+1) 0:=(hq.frozen θ).trans g0;replace f1:Fn wq (w.heap.size+1+1+1+1) 1:=(hq.frozen θ).trans f1;replace g1:Fn wq (w.heap.size+1) 1:=(hq.frozen θ).trans g1;replace f2:Fn wq (w.heap.size+1+1+1+1) 2:=(hq.frozen θ).trans f2;replace g2:Fn wq (w.heap.size+1) 2:=(hq.frozen θ).trans g2;replace f3:Fn wq (w.heap.size+1+1+1+1) 3:=(hq.frozen θ).trans f3;replace g3:Fn wq (w.heap.size+1) 3:=(hq.frozen θ).trans g3;have a8:=Hd (Qc ak.out hq);have zq:w.heap.size+5≤wq.heap.size:=by have:=hq.size;omega
 clear hq ak z0 y0 y1 y2;go_upto_region 3 with fail
 rcases hn with rfl | rfl
 ·have HS:Hid (∀ V:World,Bl wq V→(fun w'=>At w' w.heap.size 0 (.slice U n W)∧At w' w.heap.size 1 (.map (some Z))∧At w' w.heap.size 2 (.map (some rk))∧At w' w.heap.size 3 (.slice (Az gm) n cm)∧At w' w.heap.size 4 (.slice pa n pc)∧At w' (w.heap.size+1) 0 (.slice a0 D.a0.length c0)∧At w' (w.heap.size+1) 1 (.slice a1 D.b0.length c1)∧At w' (w.heap.size+1) 2 (.slice a2 D.a1.length c2)∧At w' (w.heap.size+1) 3 (.slice a3 D.b1.length c3)∧At w' (w.heap.size+1+1+1) 4 (I (j:Int))) V):=fun V F=>⟨Qa F p0,Qa F p1,Qa F p2,Qa F p3,Qa F p4,Qa F m0,Qa F m1,Qa F m2,Qa F m3,Qa F jt⟩;refine Jz (S:=fun w'=>At w' w.heap.size 0 (.slice U n W)∧At w' w.heap.size 1 (.map (some Z))∧At w' w.heap.size 2 (.map (some rk))∧At w' w.heap.size 3 (.slice (Az gm) n cm)∧At w' w.heap.size 4 (.slice pa n pc)∧At w' (w.heap.size+1) 0 (.slice a0 D.a0.length c0)∧At w' (w.heap.size+1) 1 (.slice a1 D.b0.length c1)∧At w' (w.heap.size+1) 2 (.slice a2 D.a1.length c2)∧At w' (w.heap.size+1) 3 (.slice a3 D.b1.length c3)∧At w' (w.heap.size+1+1+1) 4 (I (j:Int))) (late:=fun j=>decide (j=15)) η ?_;have g:=HS.out _ (Qg (Qe wq));refine Lk 0 (I 0) g ?_;refine Lk 1 (I 0) g ?_;refine Lk 2 (.pointer (Az (w.heap.size+1))) g ?_;refine Lk 3 (.pointer (Ad (w.heap.size+1) 1)) g ?_;refine Lk 4 (.slice a1 D.b0.length c1) g ?_;refine Lk 5 (.agg #[.slice U n W,.map (some Z),.map (some rk),.slice (Az gm) n cm,.slice pa n pc]) g ?_;refine Lk 6 (I kd) g ?_;refine Lk 7 (I (i:Int)) g ?_;refine Lk 8 (.pointer (Ad (w.heap.size+1+1+1) 4)) g ?_;refine Lk 9 (I (j:Int)) g ?_;refine Lt.one (i:=10) η rfl rfl ?_;refine Qag 192 #[.agg #[.slice U n W,.map (some Z),.map (some rk),.slice (Az gm) n cm,.slice pa n pc],I kd,I (i:Int),I (j:Int)] η (CF.out _ (Qg a8.out)) ?_;rintro e w1 ⟨rfl,aj⟩;have d:Hid (Bl wq w1):=Qc (Qg (Qe _)) aj;clear aj;refine ⟨_,rfl,fun _=>HS.out _ d.out, ?_⟩;try simp only [Ap]
  refine Lt.one (i:=11) η rfl rfl ?_;go_simp;refine ⟨HS.out _ (Qb d.out), ?_⟩;have x:Bl w (w1.alloc (.cells #[I (lo:Int),I (hi:Int)] 271)):=Qb (Qc a8.out d.out);have ay:w.heap.size+5≤w1.heap.size:=by have:=d.out.size;omega
  obtain ⟨u,m,hr,a6,a,ao,X⟩:=run_append_own_at (P:=Tryz.prog) (w1.alloc (.cells #[I (lo:Int),I (hi:Int)] 271)) base 110 110 271 aw (.agg #[I 0,I 0]) 2 16 Tryz.underlying110 HI.out.1 HI.out.2.1 HI.out.2.2.1 HI.out.2.2.2 rfl ψ (.slice a1 D.b0.length c1) D.b0.length (pV D.b0) (Qj T.out.1.o1 x) ⟨w1.heap.size,0,none⟩ 1 1 [I (lo:Int),I (hi:Int)] rfl (Gh _ _ _ _) (two_one _ _) Ξ γ (by have:=x.size;have:=T.out.2;omega);obtain ⟨a7,c7,rfl,_⟩:=Xi a6
  have c:∀ b,w.heap.size≤b→some b≠(Value.slice a1 D.b0.length c1).ownBlock:=fun b hb e=>by
   have:=(T.out.1.o1.lt b e.symm).2;omega
  have an:=HS.out _ (Qb (o:=.cells #[I (lo:Int),I (hi:Int)] 271) d.out);obtain ⟨L,M,N,O,Q,G,y,H,z,K⟩:=an;replace L:=a.cell L (c _ θ);replace M:=a.cell M (c _ θ);replace N:=a.cell N (c _ θ);replace O:=a.cell O (c _ θ);replace Q:=a.cell Q (c _ θ);replace G:=a.cell G (c _ θ);replace y:=a.cell y (c _ θ);replace H:=a.cell H (c _ θ);replace z:=a.cell z (c _ θ);replace K:=a.cell K (c _ θ);have af:At m (w.heap.size+1+1+1+1) 0 SN:=a.cell (Qk (Qa d.out r0)) (c _ θ);have aa:m.frozen? ⟨w.heap.size+1+1+1+1,0,none⟩=false:=by rw [Fo (a.block (w.heap.size+1+1+1+1) ω (c _ γ))];exact ((Qb d.out).frozen θ).trans f0
  have ag:At m (w.heap.size+1+1+1+1) 1 SN:=a.cell (Qk (Qa d.out r1)) (c _ θ);have ab:m.frozen? ⟨w.heap.size+1+1+1+1,1,none⟩=false:=by rw [Fo (a.block (w.heap.size+1+1+1+1) ω (c _ γ))];exact ((Qb d.out).frozen θ).trans f1
  have ah:At m (w.heap.size+1+1+1+1) 2 SN:=a.cell (Qk (Qa d.out r2)) (c _ θ);have ac:m.frozen? ⟨w.heap.size+1+1+1+1,2,none⟩=false:=by rw [Fo (a.block (w.heap.size+1+1+1+1) ω (c _ γ))];exact ((Qb d.out).frozen θ).trans f2
  have ai:At m (w.heap.size+1+1+1+1) 3 SN:=a.cell (Qk (Qa d.out r3)) (c _ θ);have ae:m.frozen? ⟨w.heap.size+1+1+1+1,3,none⟩=false:=by rw [Fo (a.block (w.heap.size+1+1+1+1) ω (c _ γ))];exact ((Qb d.out).frozen θ).trans f3
  have eg:m.frozen? ⟨w.heap.size+1,1,none⟩=false:=by rw [Fo (a.block (w.heap.size+1) ω (c _ γ))];exact ((Qb d.out).frozen θ).trans g1
  have J:(fun w'=>At w' w.heap.size 0 (.slice U n W)∧At w' w.heap.size 1 (.map (some Z))∧At w' w.heap.size 2 (.map (some rk))∧At w' w.heap.size 3 (.slice (Az gm) n cm)∧At w' w.heap.size 4 (.slice pa n pc)∧At w' (w.heap.size+1) 0 (.slice a0 D.a0.length c0)∧At w' (w.heap.size+1) 1 (.slice a1 D.b0.length c1)∧At w' (w.heap.size+1) 2 (.slice a2 D.a1.length c2)∧At w' (w.heap.size+1) 3 (.slice a3 D.b1.length c3)∧At w' (w.heap.size+1+1+1) 4 (I (j:Int))) m:=⟨L,M,N,O,Q,G,y,H,z,K⟩;have z5:w1.heap.size+1≤m.heap.size:=by have:=a.size;simpa using this
  try simp only [Ap]
  refine Lt.one (i:=12) η rfl rfl ?_;refine Je (.tmp 28) (.tmp 35) 110 rfl _ _ (.slice a7 (D.b0.length+1) c7) m rfl rfl hr ?_;refine ⟨fun _=>J, ?_⟩;try simp only [Ap]
  refine Lk 13 (.pointer (Az (w.heap.size+1))) J ?_;refine Lk 14 (.pointer (Ad (w.heap.size+1) 1)) J ?_;refine Lt.one (i:=15) η rfl rfl ?_;refine Zw (w':=m.setCell ⟨w.heap.size+1,1,none⟩ (.slice a7 (D.b0.length+1) c7)) (by first | go_simp | simp [go_sem,y,eg]) ?_;refine ⟨fun h=>absurd h ψ, ?_⟩;try simp only [Ap]
  refine Lt.done η ?_;go_upto_region 4 with fail
  refine Qi (fun t f=>?_);have x0:At t (w.heap.size+1) 0 (.slice a0 D.a0.length c0):=by rw [f];exact (Co _ _ _ _ ξ).trans G
  have x1:At t (w.heap.size+1) 1 (.slice a7 (D.b0.length+1) c7):=by rw [f];exact Cs _ _ _ y
  have x2:At t (w.heap.size+1) 2 (.slice a2 D.a1.length c2):=by rw [f];exact (Co _ _ _ _ ξ).trans H
  have x3:At t (w.heap.size+1) 3 (.slice a3 D.b1.length c3):=by rw [f];exact (Co _ _ _ _ ξ).trans z
  have b8:At t (w.heap.size+1+1+1+1) 0 SN:=by rw [f];exact (World.cell?_setCell_far _ _ _ _ θ).trans af
  have az:t.frozen? ⟨w.heap.size+1+1+1+1,0,none⟩=false:=by rw [f,Fz];exact aa
  have b9:At t (w.heap.size+1+1+1+1) 1 SN:=by rw [f];exact (World.cell?_setCell_far _ _ _ _ θ).trans ag
  have b5:t.frozen? ⟨w.heap.size+1+1+1+1,1,none⟩=false:=by rw [f,Fz];exact ab
  have ba:At t (w.heap.size+1+1+1+1) 2 SN:=by rw [f];exact (World.cell?_setCell_far _ _ _ _ θ).trans ah
  have b6:t.frozen? ⟨w.heap.size+1+1+1+1,2,none⟩=false:=by rw [f,Fz];exact ac
  have bb:At t (w.heap.size+1+1+1+1) 3 SN:=by rw [f];exact (World.cell?_setCell_far _ _ _ _ θ).trans ai
  have b7:t.frozen? ⟨w.heap.size+1+1+1+1,3,none⟩=false:=by rw [f,Fz];exact ae
  have HX:Hid (Sam m t (fun k=>k=w.heap.size+1)):=by rw [f];exact Sam.set _ _ _ _
  have HY:Hid (Sam w m (fun k=>(Value.slice a1 D.b0.length c1).ownBlock=some k)∧m.ownsRow base 271 2 (.slice a7 (D.b0.length+1) c7) (D.b0.length+1) (pV D.b0 ++ [I (lo:Int),I (hi:Int)])∧((Value.slice a7 (D.b0.length+1) c7).ownBlock=(Value.slice a1 D.b0.length c1).ownBlock∨(Value.slice a7 (D.b0.length+1) c7).ownBlock=some (w1.heap.size+1))∧Below base w m):=⟨(Sam.below (R:=fun k=>(Value.slice a1 D.b0.length c1).ownBlock=some k) x).then (Sam.grown a) fun k _ h=>h,a6,by simpa using X,(x.mono T.out.2).grown a (by have:=x.size;have:=T.out.2;omega) (Qw T.out.1.o1)⟩;have HM:Hid (mtF D 0 (lo,hi)=⟨D.a0,D.b0 ++ [(lo,hi)],D.a1,D.b1⟩):=rfl;have zz:w.heap.size+5≤t.heap.size:=by have:=HX.out.size;omega
  have am:Hid (Below base w t):=by rw [f];exact HY.out.2.2.2.setCell (p:=⟨w.heap.size+1,1,none⟩) (by have:=T.out.2;dsimp only;omega) _
  clear f L M N O Q G y H z K af aa ag ab ah ac ai ae eg c X ao a a6 hr x J g HS CF HI p0 p1 p2 p3 p4 m0 m1 m2 m3 jt r0 r1 r2 r3 f0 g0 f1 g1 f2 g2 f3 g3 a8 d;have ax:=T.out.2;go_wp2;refine bodyPost_ret (v:=.agg #[.slice a0 D.a0.length c0,.slice a7 (D.b0.length+1) c7,.slice a2 D.a1.length c2,.slice a3 D.b1.length c3]) (by simp [results,Tryz.results101,go_sem, *]) rfl ?_;rw [HM.out];refine mt_fold1 (N6:=w.heap.size+1) (Nt:=w.heap.size+1+1+1+1) (H1:=w1.heap.size+1) T.out.1 HY.out.1 HY.out.2.1 HY.out.2.2.1 HX.out ((((Sam.set _ _ _ _).then (Sam.set _ _ _ _) fun _ _ h=>h).then (Sam.set _ _ _ _) fun _ _ h=>h).then (Sam.set _ _ _ _) fun _ _ h=>h) γ γ γ γ ((((am.out.setCell θ _).setCell θ _).setCell θ _).setCell θ _)
 ·have HS:Hid (∀ V:World,Bl wq V→(fun w'=>At w' w.heap.size 0 (.slice U n W)∧At w' w.heap.size 1 (.map (some Z))∧At w' w.heap.size 2 (.map (some rk))∧At w' w.heap.size 3 (.slice (Az gm) n cm)∧At w' w.heap.size 4 (.slice pa n pc)∧At w' (w.heap.size+1) 0 (.slice a0 D.a0.length c0)∧At w' (w.heap.size+1) 1 (.slice a1 D.b0.length c1)∧At w' (w.heap.size+1) 2 (.slice a2 D.a1.length c2)∧At w' (w.heap.size+1) 3 (.slice a3 D.b1.length c3)∧At w' (w.heap.size+1+1+1) 4 (I (j:Int))) V):=fun V F=>⟨Qa F p0,Qa F p1,Qa F p2,Qa F p3,Qa F p4,Qa F m0,Qa F m1,Qa F m2,Qa F m3,Qa F jt⟩;refine Jz (S:=fun w'=>At w' w.heap.size 0 (.slice U n W)∧At w' w.heap.size 1 (.map (some Z))∧At w' w.heap.size 2 (.map (some rk))∧At w' w.heap.size 3 (.slice (Az gm) n cm)∧At w' w.heap.size 4 (.slice pa n pc)∧At w' (w.heap.size+1) 0 (.slice a0 D.a0.length c0)∧At w' (w.heap.size+1) 1 (.slice a1 D.b0.length c1)∧At w' (w.heap.size+1) 2 (.slice a2 D.a1.length c2)∧At w' (w.heap.size+1) 3 (.slice a3 D.b1.length c3)∧At w' (w.heap.size+1+1+1) 4 (I (j:Int))) (late:=fun j=>decide (j=15)) η ?_;have g:=HS.out _ (Qg (Qe wq));refine Lk 0 (I 1) g ?_;refine Lk 1 (I 1) g ?_;refine Lk 2 (.pointer (Ad (w.heap.size+1) 2)) g ?_;refine Lk 3 (.pointer (Ad (w.heap.size+1) 3)) g ?_;refine Lk 4 (.slice a3 D.b1.length c3) g ?_;refine Lk 5 (.agg #[.slice U n W,.map (some Z),.map (some rk),.slice (Az gm) n cm,.slice pa n pc]) g ?_;refine Lk 6 (I kd) g ?_;refine Lk 7 (I (i:Int)) g ?_;refine Lk 8 (.pointer (Ad (w.heap.size+1+1+1) 4)) g ?_;refine Lk 9 (I (j:Int)) g ?_;refine Lt.one (i:=10) η rfl rfl ?_;refine Qag 192 #[.agg #[.slice U n W,.map (some Z),.map (some rk),.slice (Az gm) n cm,.slice pa n pc],I kd,I (i:Int),I (j:Int)] η (CF.out _ (Qg a8.out)) ?_;rintro e w1 ⟨rfl,aj⟩;have d:Hid (Bl wq w1):=Qc (Qg (Qe _)) aj;clear aj;refine ⟨_,rfl,fun _=>HS.out _ d.out, ?_⟩;try simp only [Ap]
  refine Lt.one (i:=11) η rfl rfl ?_;go_simp;refine ⟨HS.out _ (Qb d.out), ?_⟩;have x:Bl w (w1.alloc (.cells #[I (lo:Int),I (hi:Int)] 271)):=Qb (Qc a8.out d.out);have ay:w.heap.size+5≤w1.heap.size:=by have:=d.out.size;omega
  obtain ⟨u,m,hr,a6,a,ao,X⟩:=run_append_own_at (P:=Tryz.prog) (w1.alloc (.cells #[I (lo:Int),I (hi:Int)] 271)) base 110 110 271 aw (.agg #[I 0,I 0]) 2 16 Tryz.underlying110 HI.out.1 HI.out.2.1 HI.out.2.2.1 HI.out.2.2.2 rfl ψ (.slice a3 D.b1.length c3) D.b1.length (pV D.b1) (Qj T.out.1.o3 x) ⟨w1.heap.size,0,none⟩ 1 1 [I (lo:Int),I (hi:Int)] rfl (Gh _ _ _ _) (two_one _ _) Ξ γ (by have:=x.size;have:=T.out.2;omega);obtain ⟨a7,c7,rfl,_⟩:=Xi a6
  have c:∀ b,w.heap.size≤b→some b≠(Value.slice a3 D.b1.length c3).ownBlock:=fun b hb e=>by
   have:=(T.out.1.o3.lt b e.symm).2;omega
  have an:=HS.out _ (Qb (o:=.cells #[I (lo:Int),I (hi:Int)] 271) d.out);obtain ⟨L,M,N,O,Q,G,y,H,z,K⟩:=an;replace L:=a.cell L (c _ θ);replace M:=a.cell M (c _ θ);replace N:=a.cell N (c _ θ);replace O:=a.cell O (c _ θ);replace Q:=a.cell Q (c _ θ);replace G:=a.cell G (c _ θ);replace y:=a.cell y (c _ θ);replace H:=a.cell H (c _ θ);replace z:=a.cell z (c _ θ);replace K:=a.cell K (c _ θ);have af:At m (w.heap.size+1+1+1+1) 0 SN:=a.cell (Qk (Qa d.out r0)) (c _ θ);have aa:m.frozen? ⟨w.heap.size+1+1+1+1,0,none⟩=false:=by rw [Fo (a.block (w.heap.size+1+1+1+1) ω (c _ γ))];exact ((Qb d.out).frozen θ).trans f0
  have ag:At m (w.heap.size+1+1+1+1) 1 SN:=a.cell (Qk (Qa d.out r1)) (c _ θ);have ab:m.frozen? ⟨w.heap.size+1+1+1+1,1,none⟩=false:=by rw [Fo (a.block (w.heap.size+1+1+1+1) ω (c _ γ))];exact ((Qb d.out).frozen θ).trans f1
  have ah:At m (w.heap.size+1+1+1+1) 2 SN:=a.cell (Qk (Qa d.out r2)) (c _ θ);have ac:m.frozen? ⟨w.heap.size+1+1+1+1,2,none⟩=false:=by rw [Fo (a.block (w.heap.size+1+1+1+1) ω (c _ γ))];exact ((Qb d.out).frozen θ).trans f2
  have ai:At m (w.heap.size+1+1+1+1) 3 SN:=a.cell (Qk (Qa d.out r3)) (c _ θ);have ae:m.frozen? ⟨w.heap.size+1+1+1+1,3,none⟩=false:=by rw [Fo (a.block (w.heap.size+1+1+1+1) ω (c _ γ))];exact ((Qb d.out).frozen θ).trans f3
  have eg:m.frozen? ⟨w.heap.size+1,3,none⟩=false:=by rw [Fo (a.block (w.heap.size+1) ω (c _ γ))];exact ((Qb d.out).frozen θ).trans g3
  have J:(fun w'=>At w' w.heap.size 0 (.slice U n W)∧At w' w.heap.size 1 (.map (some Z))∧At w' w.heap.size 2 (.map (some rk))∧At w' w.heap.size 3 (.slice (Az gm) n cm)∧At w' w.heap.size 4 (.slice pa n pc)∧At w' (w.heap.size+1) 0 (.slice a0 D.a0.length c0)∧At w' (w.heap.size+1) 1 (.slice a1 D.b0.length c1)∧At w' (w.heap.size+1) 2 (.slice a2 D.a1.length c2)∧At w' (w.heap.size+1) 3 (.slice a3 D.b1.length c3)∧At w' (w.heap.size+1+1+1) 4 (I (j:Int))) m:=⟨L,M,N,O,Q,G,y,H,z,K⟩;have z5:w1.heap.size+1≤m.heap.size:=by have:=a.size;simpa using this
  try simp only [Ap]
  refine Lt.one (i:=12) η rfl rfl ?_;refine Je (.tmp 28) (.tmp 35) 110 rfl _ _ (.slice a7 (D.b1.length+1) c7) m rfl rfl hr ?_;refine ⟨fun _=>J, ?_⟩;try simp only [Ap]
  refine Lk 13 (.pointer (Ad (w.heap.size+1) 2)) J ?_;refine Lk 14 (.pointer (Ad (w.heap.size+1) 3)) J ?_;refine Lt.one (i:=15) η rfl rfl ?_;refine Zw (w':=m.setCell ⟨w.heap.size+1,3,none⟩ (.slice a7 (D.b1.length+1) c7)) (by first | go_simp | simp [go_sem,z,eg]) ?_;refine ⟨fun h=>absurd h ψ, ?_⟩;try simp only [Ap]
  refine Lt.done η ?_;go_upto_region 4 with fail
  refine Qi (fun t f=>?_);have x0:At t (w.heap.size+1) 0 (.slice a0 D.a0.length c0):=by rw [f];exact (Co _ _ _ _ ξ).trans G
  have x1:At t (w.heap.size+1) 1 (.slice a1 D.b0.length c1):=by rw [f];exact (Co _ _ _ _ ξ).trans y
  have x2:At t (w.heap.size+1) 2 (.slice a2 D.a1.length c2):=by rw [f];exact (Co _ _ _ _ ξ).trans H
  have x3:At t (w.heap.size+1) 3 (.slice a7 (D.b1.length+1) c7):=by rw [f];exact Cs _ _ _ z
  have b8:At t (w.heap.size+1+1+1+1) 0 SN:=by rw [f];exact (World.cell?_setCell_far _ _ _ _ θ).trans af
  have az:t.frozen? ⟨w.heap.size+1+1+1+1,0,none⟩=false:=by rw [f,Fz];exact aa
  have b9:At t (w.heap.size+1+1+1+1) 1 SN:=by rw [f];exact (World.cell?_setCell_far _ _ _ _ θ).trans ag
  have b5:t.frozen? ⟨w.heap.size+1+1+1+1,1,none⟩=false:=by rw [f,Fz];exact ab
  have ba:At t (w.heap.size+1+1+1+1) 2 SN:=by rw [f];exact (World.cell?_setCell_far _ _ _ _ θ).trans ah
  have b6:t.frozen? ⟨w.heap.size+1+1+1+1,2,none⟩=false:=by rw [f,Fz];exact ac
  have bb:At t (w.heap.size+1+1+1+1) 3 SN:=by rw [f];exact (World.cell?_setCell_far _ _ _ _ θ).trans ai
  have b7:t.frozen? ⟨w.heap.size+1+1+1+1,3,none⟩=false:=by rw [f,Fz];exact ae
  have HX:Hid (Sam m t (fun k=>k=w.heap.size+1)):=by rw [f];exact Sam.set _ _ _ _
  have HY:Hid (Sam w m (fun k=>(Value.slice a3 D.b1.length c3).ownBlock=some k)∧m.ownsRow base 271 2 (.slice a7 (D.b1.length+1) c7) (D.b1.length+1) (pV D.b1 ++ [I (lo:Int),I (hi:Int)])∧((Value.slice a7 (D.b1.length+1) c7).ownBlock=(Value.slice a3 D.b1.length c3).ownBlock∨(Value.slice a7 (D.b1.length+1) c7).ownBlock=some (w1.heap.size+1))∧Below base w m):=⟨(Sam.below (R:=fun k=>(Value.slice a3 D.b1.length c3).ownBlock=some k) x).then (Sam.grown a) fun k _ h=>h,a6,by simpa using X,(x.mono T.out.2).grown a (by have:=x.size;have:=T.out.2;omega) (Qw T.out.1.o3)⟩;have HM:Hid (mtF D 1 (lo,hi)=⟨D.a0,D.b0,D.a1,D.b1 ++ [(lo,hi)]⟩):=rfl;have zz:w.heap.size+5≤t.heap.size:=by have:=HX.out.size;omega
  have am:Hid (Below base w t):=by rw [f];exact HY.out.2.2.2.setCell (p:=⟨w.heap.size+1,3,none⟩) (by have:=T.out.2;dsimp only;omega) _
  clear f L M N O Q G y H z K af aa ag ab ah ac ai ae eg c X ao a a6 hr x J g HS CF HI p0 p1 p2 p3 p4 m0 m1 m2 m3 jt r0 r1 r2 r3 f0 g0 f1 g1 f2 g2 f3 g3 a8 d;have ax:=T.out.2;go_wp2;refine bodyPost_ret (v:=.agg #[.slice a0 D.a0.length c0,.slice a1 D.b0.length c1,.slice a2 D.a1.length c2,.slice a7 (D.b1.length+1) c7]) (by simp [results,Tryz.results101,go_sem, *]) rfl ?_;rw [HM.out];refine mt_fold3 (N6:=w.heap.size+1) (Nt:=w.heap.size+1+1+1+1) (H1:=w1.heap.size+1) T.out.1 HY.out.1 HY.out.2.1 HY.out.2.2.1 HX.out ((((Sam.set _ _ _ _).then (Sam.set _ _ _ _) fun _ _ h=>h).then (Sam.set _ _ _ _) fun _ _ h=>h).then (Sam.set _ _ _ _) fun _ _ h=>h) γ γ γ γ ((((am.out.setCell θ _).setCell θ _).setCell θ _).setCell θ _)
theorem met_on (w:World) (base n cc ra rk gm cm pc:Nat) (ad pa a0 a1 L a3:Option Addr) (c0 c1 c2 c3:Nat) (p q r s A B C E:Int) (i j a6:Nat) (D:MD) (hO:Ow w base (.slice a0 D.a0.length c0) (.slice a1 D.b0.length c1) (.slice L D.a1.length c2) (.slice a3 D.b1.length c3) D) (hb:base≤w.heap.size) (hn:a6=0∨a6=1) (h1:D.a0.length≤100000000) (h2:D.a1.length≤100000000)
  (CS:Hid (∀ V:World,Bl w V→Rt 190 #[.agg #[.slice ad n cc,.map (some ra),.map (some rk),.slice (Az gm) n cm,.slice pa n pc],.agg #[I p,I q,I r,I s],I (i:Int)] V (I (a6:Int))))
  (CK:Hid (∀ V:World,Bl w V→Rt 191 #[.agg #[.slice ad n cc,.map (some ra),.map (some rk)],.agg #[I A,I B,I C,I E]] V (I 0))) :
  Cl 101 #[.agg #[.slice ad n cc,.map (some ra),.map (some rk),.slice (Az gm) n cm,.slice pa n pc],.agg #[.slice a0 D.a0.length c0,.slice a1 D.b0.length c1,.slice L D.a1.length c2,.slice a3 D.b1.length c3],.agg #[I p,I q,I r,I s],I (i:Int),.agg #[I A,I B,I C,I E,I (j:Int)]] w fun e w'=>MtTo w w' base (.slice a0 D.a0.length c0) (.slice a1 D.b0.length c1) (.slice L D.a1.length c2) (.slice a3 D.b1.length c3) (mtO D a6 i j) e:=by
 have G:=H2 hO hb;obtain ⟨i3,hi,be,bf,bg⟩:=info_parts inf3;have X:=H4 hi be bf bg;clear hO hb hi be bf bg;go_enter Tryz.func101,Tryz.ntmps101;go_upto_region 1 with fail
 refine Qi (fun x hW0=>?_)
 have az:Hid (Bl w x):=by
  rw [hW0];exact Qb β4
 have p0:At x w.heap.size 0 (.slice ad n cc):=ν;have p1:At x w.heap.size 1 (.map (some ra)):=ν;have p2:At x w.heap.size 2 (.map (some rk)):=ν;have p3:At x w.heap.size 3 (.slice (Az gm) n cm):=ν;have p4:At x w.heap.size 4 (.slice pa n pc):=ν;have m0:At x (w.heap.size+1) 0 (.slice a0 D.a0.length c0):=ν;have m1:At x (w.heap.size+1) 1 (.slice a1 D.b0.length c1):=ν;have m2:At x (w.heap.size+1) 2 (.slice L D.a1.length c2):=ν;have m3:At x (w.heap.size+1) 3 (.slice a3 D.b1.length c3):=ν;have jt:At x (w.heap.size+1+1+1) 4 (I (j:Int)):=ν;have r0:At x (w.heap.size+1+1+1+1) 0 SN:=ν;have r1:At x (w.heap.size+1+1+1+1) 1 SN:=ν;have r2:At x (w.heap.size+1+1+1+1) 2 SN:=ν;have r3:At x (w.heap.size+1+1+1+1) 3 SN:=ν;have f0:x.frozen? ⟨w.heap.size+1+1+1+1,0,none⟩=false:=ν;have g0:x.frozen? ⟨w.heap.size+1,0,none⟩=false:=ν;have f1:x.frozen? ⟨w.heap.size+1+1+1+1,1,none⟩=false:=ν;have g1:x.frozen? ⟨w.heap.size+1,1,none⟩=false:=ν;have f2:x.frozen? ⟨w.heap.size+1+1+1+1,2,none⟩=false:=ν;have g2:x.frozen? ⟨w.heap.size+1,2,none⟩=false:=ν;have f3:x.frozen? ⟨w.heap.size+1+1+1+1,3,none⟩=false:=ν;have g3:x.frozen? ⟨w.heap.size+1,3,none⟩=false:=ν;have q0:At x (w.heap.size+1+1) 0 (I p):=ν;have q1:At x (w.heap.size+1+1) 1 (I q):=ν;have q2:At x (w.heap.size+1+1) 2 (I r):=ν;have q3:At x (w.heap.size+1+1) 3 (I s):=ν;have j0:At x (w.heap.size+1+1+1) 0 (I A):=ν;have j1:At x (w.heap.size+1+1+1) 1 (I B):=ν;have j2:At x (w.heap.size+1+1+1) 2 (I C):=ν;have j3:At x (w.heap.size+1+1+1) 3 (I E):=ν;have z0:x.heap.size=w.heap.size+5:=by rw [hW0];simp
 clear hW0;have bc:Hid (∀ V:World,Bl x V→Rt 190 #[.agg #[.slice ad n cc,.map (some ra),.map (some rk),.slice (Az gm) n cm,.slice pa n pc],.agg #[I p,I q,I r,I s],I (i:Int)] V (I (a6:Int))):=fun V hV=>CS.out V (Qc az.out hV);have bb:Hid (∀ V:World,Bl x V→Rt 191 #[.agg #[.slice ad n cc,.map (some ra),.map (some rk)],.agg #[I A,I B,I C,I E]] V (I 0)):=fun V hV=>CK.out V (Qc az.out hV);obtain ⟨kc,kn⟩:=kcn x;have y0:w.heap.size<x.heap.size:=γ;have y1:w.heap.size+1+1<x.heap.size:=γ;have y2:w.heap.size+1+1+1<x.heap.size:=γ;refine wk ?_;repeat (go_big_quiet_step ((first | (go_at_call 190;exact Qf (bc.out _ (Kin.h _))) | (go_at_call 191;exact Qf (bb.out _ (Kin.h _))) | fail)))
 refine kq1 (fun y hq=>?_);clear kc kn bc bb CS CK q0 q1 q2 q3 j0 j1 j2 j3;replace p0:=Qa hq p0;replace p1:=Qa hq p1;replace p2:=Qa hq p2;replace p3:=Qa hq p3;replace p4:=Qa hq p4;replace m0:=Qa hq m0;replace m1:=Qa hq m1;replace m2:=Qa hq m2;replace m3:=Qa hq m3;replace jt:=Qa hq jt;replace r0:=Qa hq r0;replace r1:=Qa hq r1;replace r2:=Qa hq r2;replace r3:=Qa hq r3;replace f0:Fn y (w.heap.size+1+1+1+1) 0:=(hq.frozen θ).trans f0;replace g0:Fn y (w.heap.size+1) 0:=(hq.frozen θ).trans g0;replace f1:Fn y (w.heap.size+1+1+1+1) 1:=(hq.frozen θ).trans f1;replace g1:Fn y (w.heap.size+1) 1:=(hq.frozen θ).trans g1;replace f2:Fn y (w.heap.size+1+1+1+1) 2:=(hq.frozen θ).trans f2;replace g2:Fn y (w.heap.size+1) 2:=(hq.frozen θ).trans g2;replace f3:Fn y (w.heap.size+1+1+1+1) 3:=(hq.frozen θ).trans f3;replace g3:Fn y (w.heap.size+1) 3:=(hq.frozen θ).trans g3;have M:=Hd (Qc az.out hq);have zq:w.heap.size+5≤y.heap.size:=by have:=hq.size;omega
 have zb:w.heap.size+1<y.heap.size:=γ;have zc:w.heap.size+1<y.heap.size+1:=γ;clear hq az z0 y0 y1 y2;rcases hn with rfl | rfl
 ·have K:(y.alloc (.cells #[I (i:Int)] 3)).ownsRow base 3 1 (.slice a0 D.a0.length c0) D.a0.length (nV D.a0):=Qj G.out.1.o0 (Qb M.out);have Q:Hid ((y.alloc (.cells #[I (i:Int)] 3)).ownsRow base 3 1 (.slice a0 D.a0.length c0) D.a0.length (nV D.a0)∧base≤(y.alloc (.cells #[I (i:Int)] 3)).heap.size):=⟨K,by have:=(Qb (o:=.cells #[I (i:Int)] 3) M.out).size;have:=G.out.2;omega⟩
  have aj:∀ b,w.heap.size≤b→some b≠(Value.slice a0 D.a0.length c0).ownBlock:=fun b hb e=>by
   have:=(G.out.1.o0.lt b e.symm).2;omega
  have f:=Hd aj;clear K aj;go_upto_region 6 with (at_builtin;refine wpList_append_lies _ rfl (.tmp 44) (.tmp 46) 22 rfl base 3 i3 (I 0) 1 8 Tryz.underlying22 X.out.1 X.out.2.1 X.out.2.2.1 X.out.2.2.2 rfl ψ (.slice a0 D.a0.length c0) D.a0.length (nV D.a0) rfl Q.out.1 ⟨y.heap.size,0,none⟩ 1 1 [I (i:Int)] rfl rfl (Yd _ δ) (Xx _) ψ Ξ γ Q.out.2 (y.heap.size+1) ξ ?_;rintro g7 c7 w5 ak U ah ai;have HG:=H3 ak U ah;have b7:At w5 (w.heap.size+1) 0 (.slice a0 D.a0.length c0):=U.cell (Qk m0) (f.out _ θ);have bh:Fn w5 (w.heap.size+1) 0:=(Fo (U.block (w.heap.size+1) ω (f.out _ γ))).trans (((Qb (Qe y)).frozen θ).trans g0);have ez:=Bt b7;clear ak U ah)
  refine Qi (fun l c=>?_);have d:=HG.out.2.1;have x0:At l (w.heap.size+1) 0 (.slice (Az g7) (D.a0.length+1) c7):=by rw [c];exact Cs _ _ _ b7
  have x1:At l (w.heap.size+1) 1 (.slice a1 D.b0.length c1):=by rw [c];exact (Co _ _ _ _ ξ).trans (d.cell (Qk m1) (f.out _ θ))
  have x2:At l (w.heap.size+1) 2 (.slice L D.a1.length c2):=by rw [c];exact (Co _ _ _ _ ξ).trans (d.cell (Qk m2) (f.out _ θ))
  have x3:At l (w.heap.size+1) 3 (.slice a3 D.b1.length c3):=by rw [c];exact (Co _ _ _ _ ξ).trans (d.cell (Qk m3) (f.out _ θ))
  have xj:At l (w.heap.size+1+1+1) 4 (I (j:Int)):=by rw [c];exact (World.cell?_setCell_far _ _ _ _ θ).trans (d.cell (Qk jt) (f.out _ θ))
  have av:At l (w.heap.size+1+1+1+1) 0 SN:=by rw [c];exact (World.cell?_setCell_far _ _ _ _ θ).trans (d.cell (Qk r0) (f.out _ θ))
  have an:l.frozen? ⟨w.heap.size+1+1+1+1,0,none⟩=false:=by rw [c,Fz];exact (Fo (d.block (w.heap.size+1+1+1+1) ω (f.out _ γ))).trans (((Qb (Qe y)).frozen θ).trans f0)
  have aw:At l (w.heap.size+1+1+1+1) 1 SN:=by rw [c];exact (World.cell?_setCell_far _ _ _ _ θ).trans (d.cell (Qk r1) (f.out _ θ))
  have ao:l.frozen? ⟨w.heap.size+1+1+1+1,1,none⟩=false:=by rw [c,Fz];exact (Fo (d.block (w.heap.size+1+1+1+1) ω (f.out _ γ))).trans (((Qb (Qe y)).frozen θ).trans f1)
  have ax:At l (w.heap.size+1+1+1+1) 2 SN:=by rw [c];exact (World.cell?_setCell_far _ _ _ _ θ).trans (d.cell (Qk r2) (f.out _ θ))
  have ap:l.frozen? ⟨w.heap.size+1+1+1+1,2,none⟩=false:=by rw [c,Fz];exact (Fo (d.block (w.heap.size+1+1+1+1) ω (f.out _ γ))).trans (((Qb (Qe y)).frozen θ).trans f2)
  have ay:At l (w.heap.size+1+1+1+1) 3 SN:=by rw [c];exact (World.cell?_setCell_far _ _ _ _ θ).trans (d.cell (Qk r3) (f.out _ θ))
  have aq:l.frozen? ⟨w.heap.size+1+1+1+1,3,none⟩=false:=by rw [c,Fz];exact (Fo (d.block (w.heap.size+1+1+1+1) ω (f.out _ γ))).trans (((Qb (Qe y)).frozen θ).trans f3)
  have xg:l.frozen? ⟨w.heap.size+1,2,none⟩=false:=by rw [c,Fz];exact (Fo (d.block (w.heap.size+1) ω (f.out _ γ))).trans (((Qb (Qe y)).frozen θ).trans g2)
  have HX:Hid (Sam w5 l (fun k=>k=w.heap.size+1)):=by rw [c];exact Sam.set _ _ _ _
  have HY:Hid (Sam w w5 (fun k=>(Value.slice a0 D.a0.length c0).ownBlock=some k)):=(Sam.below (R:=fun k=>(Value.slice a0 D.a0.length c0).ownBlock=some k) (Qb M.out)).then (Sam.grown d) fun k _ h=>h;have b5:Hid (Below base w w5):=((Qb (o:=.cells #[I (i:Int)] 3) M.out).mono G.out.2).grown d Q.out.2 (Qw G.out.1.o0);have b6:Hid (Below base w l):=by rw [c];exact b5.out.setCell (p:=⟨w.heap.size+1,0,none⟩) (by have:=G.out.2;dsimp only;omega) _
  have z5:y.heap.size+1≤w5.heap.size:=by have:=d.size;simpa using this
  have bt:w5.heap.size≤l.heap.size:=HX.out.size;have bu:g7<w5.heap.size:=ai;have am:l.ownsRow base 3 1 (.slice L D.a1.length c2) D.a1.length (nV D.a1):=(HY.out.then HX.out fun k hk e=>by omega).own G.out.1.o2 fun g e q=>G.out.1.d0 g q e;have af:=Hd am
  have Y:∀ b,w.heap.size≤b→some b≠(Value.slice L D.a1.length c2).ownBlock:=fun b hb e=>by
   have:=(G.out.1.o2.lt b e.symm).2;omega
  have J:=Hd Y;clear d c am Y b7 bh p0 p1 p2 p3 p4 m0 m1 m2 m3 jt r0 r1 r2 r3 f0 g0 f1 g1 f2 g2 f3 g3 M Q f;have HS:Hid (∀ V:World,Bl l V→(fun w'=>At w' (w.heap.size+1) 0 (.slice (Az g7) (D.a0.length+1) c7)∧At w' (w.heap.size+1) 1 (.slice a1 D.b0.length c1)∧At w' (w.heap.size+1) 2 (.slice L D.a1.length c2)∧At w' (w.heap.size+1) 3 (.slice a3 D.b1.length c3)∧At w' (w.heap.size+1+1+1) 4 (I (j:Int))) V):=fun V hV=>⟨Qa hV x0,Qa hV x1,Qa hV x2,Qa hV x3,Qa hV xj⟩;refine Jz (S:=fun w'=>At w' (w.heap.size+1) 0 (.slice (Az g7) (D.a0.length+1) c7)∧At w' (w.heap.size+1) 1 (.slice a1 D.b0.length c1)∧At w' (w.heap.size+1) 2 (.slice L D.a1.length c2)∧At w' (w.heap.size+1) 3 (.slice a3 D.b1.length c3)∧At w' (w.heap.size+1+1+1) 4 (I (j:Int))) (late:=fun j=>decide (j=13)) η ?_;have t:=HS.out _ (Qg (Qe l));refine Lkd 0 (I 0) t ?_;refine Lkd 1 (I 1) t ?_;refine Lkd 2 (I 0) t ?_;refine Lkd 3 (I 1) t ?_;refine Lkd 4 (.pointer (Ad (w.heap.size+1) 2)) t ?_;refine Lkd 5 (.pointer (Ad (w.heap.size+1) 2)) t ?_;refine Lkd 6 (.slice L D.a1.length c2) t ?_;refine Lkd 7 (.pointer (Ad (w.heap.size+1+1+1) 4)) t ?_;refine Lkd 8 (I (j:Int)) t ?_;refine Lt.one (i:=9) η rfl rfl ?_;go_simp;refine ⟨HS.out (l.alloc (.cells #[I (j:Int)] 3)) β1, ?_⟩;have F:Bl l ((l.alloc (.cells #[I (j:Int)] 3)).drew):=Qg β1;obtain ⟨u8,W,hr,ab,H,ba,Z⟩:=run_append_own_at (P:=Tryz.prog) ((l.alloc (.cells #[I (j:Int)] 3)).drew) base 22 22 3 i3 (I 0) 1 8 Tryz.underlying22 X.out.1 X.out.2.1 X.out.2.2.1 X.out.2.2.2 rfl ψ (.slice L D.a1.length c2) D.a1.length (nV D.a1) (Qj af.out F) ⟨l.heap.size,0,none⟩ 1 1 [I (j:Int)] rfl (Yd _ δ) (Xx _) Ξ γ (by have:=F.size;have:=G.out.2;omega);obtain ⟨a8,c8,rfl,_⟩:=Xi ab;have N:∀ (a:Addr) (u:Value),w.heap.size≤a.block→l.cell? a=some u→W.cell? a=some u:=fun a u hl hc=>H.cell (w:=((l.alloc (.cells #[I (j:Int)] 3)).drew)) (Qq (Qk hc)) (J.out _ hl);have a7:=N _ _ θ x0;have ac:=N _ _ θ x1;have aa:=N _ _ θ x2;have ae:=N _ _ θ x3;have au:=N _ _ θ xj;have O:(fun w'=>At w' (w.heap.size+1) 0 (.slice (Az g7) (D.a0.length+1) c7)∧At w' (w.heap.size+1) 1 (.slice a1 D.b0.length c1)∧At w' (w.heap.size+1) 2 (.slice L D.a1.length c2)∧At w' (w.heap.size+1) 3 (.slice a3 D.b1.length c3)∧At w' (w.heap.size+1+1+1) 4 (I (j:Int))) W:=⟨a7,ac,aa,ae,au⟩;have fy:∀ b o,w.heap.size≤b→b<l.heap.size→Fn l b o→Fn W b o:=fun b o hl b9 hc=>(Fo (H.block b ω (J.out _ hl))).trans ((F.frozen (p:=⟨b,o,none⟩) b9).trans hc);have z8:l.heap.size+1≤W.heap.size:=by have:=H.size;simpa using this
  try simp only [Ap]
  refine Lt.one (i:=10) η rfl rfl ?_;refine Je (.tmp 56) (.tmp 59) 22 rfl _ _ (.slice a8 (D.a1.length+1) c8) W rfl rfl hr ?_;refine ⟨fun _=>O, ?_⟩;try simp only [Ap]
  refine Lkd 11 (.pointer (Ad (w.heap.size+1) 2)) O ?_;refine Lkd 12 (.pointer (Ad (w.heap.size+1) 2)) O ?_;have ar:=fy _ _ γ γ xg;refine Lt.one (i:=13) η rfl rfl ?_;refine Zw (w':=W.setCell ⟨w.heap.size+1,2,none⟩ (.slice a8 (D.a1.length+1) c8)) (by first | go_simp | simp [go_sem,aa,ar]) ?_;refine ⟨fun h=>absurd h ψ, ?_⟩;try simp only [Ap]
  refine Lt.done η ?_;go_upto_region 7 with fail
  refine Qi (fun z m=>?_);have v0:At z (w.heap.size+1) 0 (.slice (Az g7) (D.a0.length+1) c7):=by rw [m];exact (Co _ _ _ _ ξ).trans a7
  have v1:At z (w.heap.size+1) 1 (.slice a1 D.b0.length c1):=by rw [m];exact (Co _ _ _ _ ξ).trans ac
  have v2:At z (w.heap.size+1) 2 (.slice a8 (D.a1.length+1) c8):=by rw [m];exact Cs _ _ _ aa
  have v3:At z (w.heap.size+1) 3 (.slice a3 D.b1.length c3):=by rw [m];exact (Co _ _ _ _ ξ).trans ae
  have bp:At z (w.heap.size+1+1+1+1) 0 SN:=by rw [m];exact (World.cell?_setCell_far _ _ _ _ θ).trans (N _ _ θ av)
  have bk:z.frozen? ⟨w.heap.size+1+1+1+1,0,none⟩=false:=by rw [m,Fz];exact fy _ _ γ γ an
  have bq:At z (w.heap.size+1+1+1+1) 1 SN:=by rw [m];exact (World.cell?_setCell_far _ _ _ _ θ).trans (N _ _ θ aw)
  have bm:z.frozen? ⟨w.heap.size+1+1+1+1,1,none⟩=false:=by rw [m,Fz];exact fy _ _ γ γ ao
  have br:At z (w.heap.size+1+1+1+1) 2 SN:=by rw [m];exact (World.cell?_setCell_far _ _ _ _ θ).trans (N _ _ θ ax)
  have bn:z.frozen? ⟨w.heap.size+1+1+1+1,2,none⟩=false:=by rw [m,Fz];exact fy _ _ γ γ ap
  have bs:At z (w.heap.size+1+1+1+1) 3 SN:=by rw [m];exact (World.cell?_setCell_far _ _ _ _ θ).trans (N _ _ θ ay)
  have bo:z.frozen? ⟨w.heap.size+1+1+1+1,3,none⟩=false:=by rw [m,Fz];exact fy _ _ γ γ aq
  have ag:Hid (Sam W z (fun k=>k=w.heap.size+1)):=by rw [m];exact Sam.set _ _ _ _
  have T:Hid (Sam l W (fun k=>(Value.slice L D.a1.length c2).ownBlock=some k)∧W.ownsRow base 3 1 (.slice a8 (D.a1.length+1) c8) (D.a1.length+1) (nV D.a1 ++ [I (j:Int)])∧((Value.slice a8 (D.a1.length+1) c8).ownBlock=(Value.slice L D.a1.length c2).ownBlock∨(Value.slice a8 (D.a1.length+1) c8).ownBlock=some (l.heap.size+1))∧Below base w z):=⟨(Sam.below (R:=fun k=>(Value.slice L D.a1.length c2).ownBlock=some k) F).then (Sam.grown H) fun k _ h=>h,ab,by simpa using Z,by
   rw [m];exact ((b6.out.trans (F.mono (by have:=G.out.2;omega))).grown H (by have:=F.size;have:=G.out.2;omega) (Qw af.out)).setCell (p:=⟨w.heap.size+1,2,none⟩) (by have:=G.out.2;dsimp only;omega) _⟩
  have HM:Hid (mtO D 0 i j=⟨D.a0 ++ [i],D.b0,D.a1 ++ [j],D.b1⟩):=rfl;have zz:w.heap.size+5≤z.heap.size:=by have:=ag.out.size;omega
  have bj:=G.out.2;clear m x0 x1 x2 x3 xj a7 ac aa ae au N fy hr ab H ba Z F O t HS xg ar av an aw ao ax ap ay aq J X;go_wp2;refine bodyPost_ret (v:=.agg #[.slice (Az g7) (D.a0.length+1) c7,.slice a1 D.b0.length c1,.slice a8 (D.a1.length+1) c8,.slice a3 D.b1.length c3]) (by simp [results,Tryz.results101,go_sem, *]) rfl ?_;rw [HM.out];refine mt_on0 (N6:=w.heap.size+1) (Nt:=w.heap.size+1+1+1+1) (H1:=y.heap.size+1) (H2:=l.heap.size+1) G.out.1 HY.out HG.out.1 (fun g e=>?_) HX.out T.out.1 T.out.2.1 (fun g e=>?_) ag.out ((((Sam.set _ _ _ _).then (Sam.set _ _ _ _) fun _ _ h=>h).then (Sam.set _ _ _ _) fun _ _ h=>h).then (Sam.set _ _ _ _) fun _ _ h=>h) γ γ γ γ γ ((((T.out.2.2.2.setCell θ _).setCell θ _).setCell θ _).setCell θ _)
  ·simp only [Value.ownBlock,Option.some.injEq] at e;subst e;exact HG.out.2.2
  ·rcases T.out.2.2.1 with h | h
   ·exact Or.inl (h ▸ e)
   ·rw [h] at e;simp at e;exact Or.inr e.symm
 ·have K:(y.alloc (.cells #[I (i:Int)] 3)).ownsRow base 3 1 (.slice L D.a1.length c2) D.a1.length (nV D.a1):=Qj G.out.1.o2 (Qb M.out);have Q:Hid ((y.alloc (.cells #[I (i:Int)] 3)).ownsRow base 3 1 (.slice L D.a1.length c2) D.a1.length (nV D.a1)∧base≤(y.alloc (.cells #[I (i:Int)] 3)).heap.size):=⟨K,by have:=(Qb (o:=.cells #[I (i:Int)] 3) M.out).size;have:=G.out.2;omega⟩
  have aj:∀ b,w.heap.size≤b→some b≠(Value.slice L D.a1.length c2).ownBlock:=fun b hb e=>by
   have:=(G.out.1.o2.lt b e.symm).2;omega
  have f:=Hd aj;clear K aj;go_upto_region 6 with (at_builtin;refine wpList_append_lies _ rfl (.tmp 44) (.tmp 46) 22 rfl base 3 i3 (I 0) 1 8 Tryz.underlying22 X.out.1 X.out.2.1 X.out.2.2.1 X.out.2.2.2 rfl ψ (.slice L D.a1.length c2) D.a1.length (nV D.a1) rfl Q.out.1 ⟨y.heap.size,0,none⟩ 1 1 [I (i:Int)] rfl rfl (Yd _ δ) (Xx _) ψ Ξ γ Q.out.2 (y.heap.size+1) ξ ?_;rintro g7 c7 w5 ak U ah ai;have HG:=H3 ak U ah;have b8:At w5 (w.heap.size+1) 2 (.slice L D.a1.length c2):=U.cell (Qk m2) (f.out _ θ);have bi:Fn w5 (w.heap.size+1) 2:=(Fo (U.block (w.heap.size+1) ω (f.out _ γ))).trans (((Qb (Qe y)).frozen θ).trans g2);have ez:=Bt b8;clear ak U ah)
  refine Qi (fun l c=>?_);have d:=HG.out.2.1;have x0:At l (w.heap.size+1) 0 (.slice a0 D.a0.length c0):=by rw [c];exact (Co _ _ _ _ ξ).trans (d.cell (Qk m0) (f.out _ θ))
  have x1:At l (w.heap.size+1) 1 (.slice a1 D.b0.length c1):=by rw [c];exact (Co _ _ _ _ ξ).trans (d.cell (Qk m1) (f.out _ θ))
  have x2:At l (w.heap.size+1) 2 (.slice (Az g7) (D.a1.length+1) c7):=by rw [c];exact Cs _ _ _ b8
  have x3:At l (w.heap.size+1) 3 (.slice a3 D.b1.length c3):=by rw [c];exact (Co _ _ _ _ ξ).trans (d.cell (Qk m3) (f.out _ θ))
  have xj:At l (w.heap.size+1+1+1) 4 (I (j:Int)):=by rw [c];exact (World.cell?_setCell_far _ _ _ _ θ).trans (d.cell (Qk jt) (f.out _ θ))
  have av:At l (w.heap.size+1+1+1+1) 0 SN:=by rw [c];exact (World.cell?_setCell_far _ _ _ _ θ).trans (d.cell (Qk r0) (f.out _ θ))
  have an:l.frozen? ⟨w.heap.size+1+1+1+1,0,none⟩=false:=by rw [c,Fz];exact (Fo (d.block (w.heap.size+1+1+1+1) ω (f.out _ γ))).trans (((Qb (Qe y)).frozen θ).trans f0)
  have aw:At l (w.heap.size+1+1+1+1) 1 SN:=by rw [c];exact (World.cell?_setCell_far _ _ _ _ θ).trans (d.cell (Qk r1) (f.out _ θ))
  have ao:l.frozen? ⟨w.heap.size+1+1+1+1,1,none⟩=false:=by rw [c,Fz];exact (Fo (d.block (w.heap.size+1+1+1+1) ω (f.out _ γ))).trans (((Qb (Qe y)).frozen θ).trans f1)
  have ax:At l (w.heap.size+1+1+1+1) 2 SN:=by rw [c];exact (World.cell?_setCell_far _ _ _ _ θ).trans (d.cell (Qk r2) (f.out _ θ))
  have ap:l.frozen? ⟨w.heap.size+1+1+1+1,2,none⟩=false:=by rw [c,Fz];exact (Fo (d.block (w.heap.size+1+1+1+1) ω (f.out _ γ))).trans (((Qb (Qe y)).frozen θ).trans f2)
  have ay:At l (w.heap.size+1+1+1+1) 3 SN:=by rw [c];exact (World.cell?_setCell_far _ _ _ _ θ).trans (d.cell (Qk r3) (f.out _ θ))
  have aq:l.frozen? ⟨w.heap.size+1+1+1+1,3,none⟩=false:=by rw [c,Fz];exact (Fo (d.block (w.heap.size+1+1+1+1) ω (f.out _ γ))).trans (((Qb (Qe y)).frozen θ).trans f3)
  have xg:l.frozen? ⟨w.heap.size+1,0,none⟩=false:=by rw [c,Fz];exact (Fo (d.block (w.heap.size+1) ω (f.out _ γ))).trans (((Qb (Qe y)).frozen θ).trans g0)
  have HX:Hid (Sam w5 l (fun k=>k=w.heap.size+1)):=by rw [c];exact Sam.set _ _ _ _
  have HY:Hid (Sam w w5 (fun k=>(Value.slice L D.a1.length c2).ownBlock=some k)):=(Sam.below (R:=fun k=>(Value.slice L D.a1.length c2).ownBlock=some k) (Qb M.out)).then (Sam.grown d) fun k _ h=>h;have b5:Hid (Below base w w5):=((Qb (o:=.cells #[I (i:Int)] 3) M.out).mono G.out.2).grown d Q.out.2 (Qw G.out.1.o2);have b6:Hid (Below base w l):=by rw [c];exact b5.out.setCell (p:=⟨w.heap.size+1,2,none⟩) (by have:=G.out.2;dsimp only;omega) _
  have z5:y.heap.size+1≤w5.heap.size:=by have:=d.size;simpa using this
  have bt:w5.heap.size≤l.heap.size:=HX.out.size;have bu:g7<w5.heap.size:=ai;have am:l.ownsRow base 3 1 (.slice a0 D.a0.length c0) D.a0.length (nV D.a0):=(HY.out.then HX.out fun k hk e=>by omega).own G.out.1.o0 fun g e q=>G.out.1.d0 g e q;have af:=Hd am
  have Y:∀ b,w.heap.size≤b→some b≠(Value.slice a0 D.a0.length c0).ownBlock:=fun b hb e=>by
   have:=(G.out.1.o0.lt b e.symm).2;omega
  have J:=Hd Y;clear d c am Y b8 bi p0 p1 p2 p3 p4 m0 m1 m2 m3 jt r0 r1 r2 r3 f0 g0 f1 g1 f2 g2 f3 g3 M Q f;have HS:Hid (∀ V:World,Bl l V→(fun w'=>At w' (w.heap.size+1) 0 (.slice a0 D.a0.length c0)∧At w' (w.heap.size+1) 1 (.slice a1 D.b0.length c1)∧At w' (w.heap.size+1) 2 (.slice (Az g7) (D.a1.length+1) c7)∧At w' (w.heap.size+1) 3 (.slice a3 D.b1.length c3)∧At w' (w.heap.size+1+1+1) 4 (I (j:Int))) V):=fun V hV=>⟨Qa hV x0,Qa hV x1,Qa hV x2,Qa hV x3,Qa hV xj⟩;refine Jz (S:=fun w'=>At w' (w.heap.size+1) 0 (.slice a0 D.a0.length c0)∧At w' (w.heap.size+1) 1 (.slice a1 D.b0.length c1)∧At w' (w.heap.size+1) 2 (.slice (Az g7) (D.a1.length+1) c7)∧At w' (w.heap.size+1) 3 (.slice a3 D.b1.length c3)∧At w' (w.heap.size+1+1+1) 4 (I (j:Int))) (late:=fun j=>decide (j=13)) η ?_;have t:=HS.out _ (Qg (Qe l));refine Lkd 0 (I 1) t ?_;refine Lkd 1 (I 0) t ?_;refine Lkd 2 (I 1) t ?_;refine Lkd 3 (I 0) t ?_;refine Lkd 4 (.pointer (Az (w.heap.size+1))) t ?_;refine Lkd 5 (.pointer (Az (w.heap.size+1))) t ?_;refine Lkd 6 (.slice a0 D.a0.length c0) t ?_;refine Lkd 7 (.pointer (Ad (w.heap.size+1+1+1) 4)) t ?_;refine Lkd 8 (I (j:Int)) t ?_;refine Lt.one (i:=9) η rfl rfl ?_;go_simp;refine ⟨HS.out (l.alloc (.cells #[I (j:Int)] 3)) β1, ?_⟩;have F:Bl l ((l.alloc (.cells #[I (j:Int)] 3)).drew):=Qg β1;obtain ⟨u8,W,hr,ab,H,ba,Z⟩:=run_append_own_at (P:=Tryz.prog) ((l.alloc (.cells #[I (j:Int)] 3)).drew) base 22 22 3 i3 (I 0) 1 8 Tryz.underlying22 X.out.1 X.out.2.1 X.out.2.2.1 X.out.2.2.2 rfl ψ (.slice a0 D.a0.length c0) D.a0.length (nV D.a0) (Qj af.out F) ⟨l.heap.size,0,none⟩ 1 1 [I (j:Int)] rfl (Yd _ δ) (Xx _) Ξ γ (by have:=F.size;have:=G.out.2;omega);obtain ⟨a8,c8,rfl,_⟩:=Xi ab;have N:∀ (a:Addr) (u:Value),w.heap.size≤a.block→l.cell? a=some u→W.cell? a=some u:=fun a u hl hc=>H.cell (w:=((l.alloc (.cells #[I (j:Int)] 3)).drew)) (Qq (Qk hc)) (J.out _ hl);have a7:=N _ _ θ x0;have ac:=N _ _ θ x1;have aa:=N _ _ θ x2;have ae:=N _ _ θ x3;have au:=N _ _ θ xj;have O:(fun w'=>At w' (w.heap.size+1) 0 (.slice a0 D.a0.length c0)∧At w' (w.heap.size+1) 1 (.slice a1 D.b0.length c1)∧At w' (w.heap.size+1) 2 (.slice (Az g7) (D.a1.length+1) c7)∧At w' (w.heap.size+1) 3 (.slice a3 D.b1.length c3)∧At w' (w.heap.size+1+1+1) 4 (I (j:Int))) W:=⟨a7,ac,aa,ae,au⟩;have fy:∀ b o,w.heap.size≤b→b<l.heap.size→Fn l b o→Fn W b o:=fun b o hl b9 hc=>(Fo (H.block b ω (J.out _ hl))).trans ((F.frozen (p:=⟨b,o,none⟩) b9).trans hc);have z8:l.heap.size+1≤W.heap.size:=by have:=H.size;simpa using this
  try simp only [Ap]
  refine Lt.one (i:=10) η rfl rfl ?_;refine Je (.tmp 56) (.tmp 59) 22 rfl _ _ (.slice a8 (D.a0.length+1) c8) W rfl rfl hr ?_;refine ⟨fun _=>O, ?_⟩;try simp only [Ap]
  refine Lkd 11 (.pointer (Az (w.heap.size+1))) O ?_;refine Lkd 12 (.pointer (Az (w.heap.size+1))) O ?_;have ar:=fy _ _ γ γ xg;refine Lt.one (i:=13) η rfl rfl ?_;refine Zw (w':=W.setCell ⟨w.heap.size+1,0,none⟩ (.slice a8 (D.a0.length+1) c8)) (by first | go_simp | simp [go_sem,a7,ar]) ?_;refine ⟨fun h=>absurd h ψ, ?_⟩;try simp only [Ap]
  refine Lt.done η ?_;go_upto_region 7 with fail
  refine Qi (fun z m=>?_);have v0:At z (w.heap.size+1) 0 (.slice a8 (D.a0.length+1) c8):=by rw [m];exact Cs _ _ _ a7
  have v1:At z (w.heap.size+1) 1 (.slice a1 D.b0.length c1):=by rw [m];exact (Co _ _ _ _ ξ).trans ac
  have v2:At z (w.heap.size+1) 2 (.slice (Az g7) (D.a1.length+1) c7):=by rw [m];exact (Co _ _ _ _ ξ).trans aa
  have v3:At z (w.heap.size+1) 3 (.slice a3 D.b1.length c3):=by rw [m];exact (Co _ _ _ _ ξ).trans ae
  have bp:At z (w.heap.size+1+1+1+1) 0 SN:=by rw [m];exact (World.cell?_setCell_far _ _ _ _ θ).trans (N _ _ θ av)
  have bk:z.frozen? ⟨w.heap.size+1+1+1+1,0,none⟩=false:=by rw [m,Fz];exact fy _ _ γ γ an
  have bq:At z (w.heap.size+1+1+1+1) 1 SN:=by rw [m];exact (World.cell?_setCell_far _ _ _ _ θ).trans (N _ _ θ aw)
  have bm:z.frozen? ⟨w.heap.size+1+1+1+1,1,none⟩=false:=by rw [m,Fz];exact fy _ _ γ γ ao
  have br:At z (w.heap.size+1+1+1+1) 2 SN:=by rw [m];exact (World.cell?_setCell_far _ _ _ _ θ).trans (N _ _ θ ax)
  have bn:z.frozen? ⟨w.heap.size+1+1+1+1,2,none⟩=false:=by rw [m,Fz];exact fy _ _ γ γ ap
  have bs:At z (w.heap.size+1+1+1+1) 3 SN:=by rw [m];exact (World.cell?_setCell_far _ _ _ _ θ).trans (N _ _ θ ay)
  have bo:z.frozen? ⟨w.heap.size+1+1+1+1,3,none⟩=false:=by rw [m,Fz];exact fy _ _ γ γ aq
  have ag:Hid (Sam W z (fun k=>k=w.heap.size+1)):=by rw [m];exact Sam.set _ _ _ _
  have T:Hid (Sam l W (fun k=>(Value.slice a0 D.a0.length c0).ownBlock=some k)∧W.ownsRow base 3 1 (.slice a8 (D.a0.length+1) c8) (D.a0.length+1) (nV D.a0 ++ [I (j:Int)])∧((Value.slice a8 (D.a0.length+1) c8).ownBlock=(Value.slice a0 D.a0.length c0).ownBlock∨(Value.slice a8 (D.a0.length+1) c8).ownBlock=some (l.heap.size+1))∧Below base w z):=⟨(Sam.below (R:=fun k=>(Value.slice a0 D.a0.length c0).ownBlock=some k) F).then (Sam.grown H) fun k _ h=>h,ab,by simpa using Z,by
   rw [m];exact ((b6.out.trans (F.mono (by have:=G.out.2;omega))).grown H (by have:=F.size;have:=G.out.2;omega) (Qw af.out)).setCell (p:=⟨w.heap.size+1,0,none⟩) (by have:=G.out.2;dsimp only;omega) _⟩
  have HM:Hid (mtO D 1 i j=⟨D.a0 ++ [j],D.b0,D.a1 ++ [i],D.b1⟩):=rfl;have zz:w.heap.size+5≤z.heap.size:=by have:=ag.out.size;omega
  have bj:=G.out.2;clear m x0 x1 x2 x3 xj a7 ac aa ae au N fy hr ab H ba Z F O t HS xg ar av an aw ao ax ap ay aq J X;go_wp2;refine bodyPost_ret (v:=.agg #[.slice a8 (D.a0.length+1) c8,.slice a1 D.b0.length c1,.slice (Az g7) (D.a1.length+1) c7,.slice a3 D.b1.length c3]) (by simp [results,Tryz.results101,go_sem, *]) rfl ?_;rw [HM.out];refine mt_on2 (N6:=w.heap.size+1) (Nt:=w.heap.size+1+1+1+1) (H1:=y.heap.size+1) (H2:=l.heap.size+1) G.out.1 HY.out HG.out.1 (fun g e=>?_) HX.out T.out.1 T.out.2.1 (fun g e=>?_) ag.out ((((Sam.set _ _ _ _).then (Sam.set _ _ _ _) fun _ _ h=>h).then (Sam.set _ _ _ _) fun _ _ h=>h).then (Sam.set _ _ _ _) fun _ _ h=>h) γ γ γ γ γ ((((T.out.2.2.2.setCell θ _).setCell θ _).setCell θ _).setCell θ _)
  ·simp only [Value.ownBlock,Option.some.injEq] at e;subst e;exact HG.out.2.2
  ·rcases T.out.2.2.1 with h | h
   ·exact Or.inl (h ▸ e)
   ·rw [h] at e;simp at e;exact Or.inr e.symm
open Go.ChangeMaps
theorem zero114 (w:World):(zeroValue 114).run Tryz.prog w=.ok (.agg #[SN,SN,SN,SN]) w:=η
def vB (v:Value) (k:Nat):Prop := ∃ s0 s1 s2 s3,v=.agg #[s0,s1,s2,s3]∧mtB s0 s1 s2 s3 k
theorem vB_is {a b c d:Value}:vB (.agg #[a,b,c,d]) k↔mtB a b c d k:=by
 constructor
 ·rintro ⟨t0,f,g,t3,e,h⟩;simp only [Value.agg.injEq,Array.mk.injEq,List.cons.injEq,and_true] at e;obtain ⟨rfl,rfl,rfl,rfl⟩:=e;exact h
 ·exact fun h=>⟨_,_,_,_,rfl,h⟩
def MGP (w:World) (base ra:Nat) (G:E4→MD) (m:Nat) (X:Nat→Prop):Prop := ∃ ls c,EM w ra ls c∧Good ls c∧ls.length≤m∧(∀ e,lk ls e=none→G e=mdZ)∧(∀ e v,lk ls e=some v→G e≠mdZ∧∃ s0 s1 s2 s3,v=.agg #[s0,s1,s2,s3]∧Ow w base s0 s1 s2 s3 (G e))∧(∀ e e' v v',e≠e'→lk ls e=some v→lk ls e'=some v'→∀ k,vB v k→¬ vB v' k)∧∀ e v,lk ls e=some v→∀ k,vB v k→¬ X k
theorem MGP.kept {w':World} {b:Nat} {G:E4→MD} {X:Nat→Prop} (h:MGP w base b G m X) (a:Bl w w'):MGP w' base b G m X:=by
 obtain ⟨ls,c,h1,h2,h3,h4,h5,h6⟩:=h;refine ⟨ls,c,(Sam.below (R:=fun _=>False) a).em h1 id,h2,h3,h4,fun e v d=>?_,h6⟩;obtain ⟨a1,g,i,j,k,rfl,f⟩:=h5 e v d;exact ⟨a1,g,i,j,k,rfl,f.sam (Sam.below (R:=fun _=>False) a) fun _ _=>id⟩
theorem MGP.made (w:World) (base:Nat):MGP (w.alloc (.map #[] 0)) base w.heap.size (fun _=>mdZ) 0 (fun _=>False) :=
 ⟨[],0,Qbp w,Ga,Nr _,fun _ _=>rfl,(fun e v h=>by cases h),(fun e a v v' _ h=>by cases h),(fun e v h=>by cases h)⟩
theorem MGP.avoid {a:Nat} {G:E4→MD} {X Y:Nat→Prop} (h:MGP w base a G m X) (b:∀ k,Y k→w.heap.size≤k):MGP w base a G m Y:=by
 obtain ⟨ls,c,h1,h2,h3,h4,h5,h6,j⟩:=h;refine ⟨ls,c,h1,h2,h3,h4,h5,h6,fun e v d k f i=>?_⟩;obtain ⟨_,l,n,o,p,rfl,g⟩:=h5 e v d;have:=(g.low (vB_is.1 f)).2;have:=b k i;omega
theorem MGP.less {a:Nat} {G:E4→MD} {X Y:Nat→Prop} (h:MGP w base a G m X) (d:∀ k,Y k→X k):MGP w base a G m Y:=by
 obtain ⟨ls,c,h1,h2,h3,h4,h5,h6,b⟩:=h;exact ⟨ls,c,h1,h2,h3,h4,h5,h6,fun e v f k g i=>b e v f k g (d k i)⟩
theorem MGP.step {f:Nat} {G:E4→MD} {X:Nat→Prop} (h:MGP w base f G m X) (ad:f<base) (e:E4) :
  ∃ l n o p,(∀ W:World,W.heap[f]?=w.heap[f]?→(Instr.lookup 108 (.map (some f)) (ek e) false).run Tryz.prog W=.ok (.agg #[l,n,o,p]) W)∧Ow w base l n o p (G e)∧f<w.heap.size∧(∀ k,mtB l n o p k→¬ X k) ∧
   ∀ (W w':World) (t0 E F t3:Value) (D:MD),Bl w W→Ow w' base t0 E F t3 D→Sam W w' (mtB l n o p)→(∀ k,mtB t0 E F t3 k→mtB l n o p k∨W.heap.size≤k)→(∀ k,X k→k<W.heap.size)→D≠mdZ →
    ∃ W4,(Instr.mapUpdate 108 (.map (some f)) (ek e) (.agg #[t0,E,F,t3])).run Tryz.prog w'=.ok () W4∧MGP W4 base f (fun j=>if j=e then D else G j) (m+1) X∧w'.grownBy W4 (some f):=by
 obtain ⟨ls,c,h1,h2,h3,h4,h5,h6,h7⟩:=h;have x:∀ W:World,W.heap[f]?=w.heap[f]?→(Instr.lookup 108 (.map (some f)) (ek e) false).run Tryz.prog W=.ok ((lk ls e).getD (.agg #[SN,SN,SN,SN])) W:=fun W T=>lookup27 Tryz.underlying108 zero114 (show EM W f ls c from T.trans h1) h2 e
 have B:∃ l n o p,(lk ls e).getD (.agg #[SN,SN,SN,SN])=.agg #[l,n,o,p]∧Ow w base l n o p (G e)∧∀ k,mtB l n o p k→∃ v,lk ls e=some v∧vB v k:=by
  cases hl:lk ls e with
  | none =>
   rw [h4 e hl];exact ⟨_,_,_,_,rfl,ow_zero w base,fun k b=>by rcases b with q | q | q | q <;> cases q⟩
  | some v =>
   obtain ⟨_,l,n,o,p,rfl,U⟩:=h5 e v hl;exact ⟨l,n,o,p,rfl,U,fun k b=>⟨_,rfl,vB_is.2 b⟩⟩
 obtain ⟨l,n,o,p,hs,U,hv⟩:=B;rw [hs] at x;refine ⟨l,n,o,p,x,U,(Array.getElem?_eq_some_iff.1 h1).1,(fun k b P=>by obtain ⟨v,ac,g⟩:=hv k b;exact h7 e v ac k g P),fun W w' t0 E F t3 D T hD H M a2 aa=>?_⟩;have hS:Sam w w' (mtB l n o p):=(Sam.below (R:=mtB l n o p) T).then H fun k _ h=>h;have y:EM w' f ls c:=hS.em h1 fun b=>by have:=(U.low b).1;omega
 obtain ⟨C,Z,N,a6,t,L⟩:=update27 Tryz.underlying108 y h2 e (.agg #[t0,E,F,t3]);have J:=Yf y (.map (C.map toE).toArray Z);have O:Sam w' (setBlock w' f (.map (C.map toE).toArray Z)) (fun k=>k=f):=(Sam.grown J).mono fun k _ q=>by simpa using q.symm
 refine ⟨_,N,⟨C,Z,heap_setBlock_same y _,a6,by rw [L];split <;> omega,fun j a=>?_,fun j v a=>?_,fun j Y v v' z a d k b A=>?_,fun j v a k b P=>?_⟩,J⟩
 ·rw [t j] at a;by_cases e1:j=e
  ·rw [if_pos e1] at a
   cases a
  ·rw [if_neg e1] at a;dsimp only;rw [if_neg e1];exact h4 j a
 ·rw [t j] at a;by_cases e1:j=e
  ·rw [if_pos e1] at a;dsimp only;rw [if_pos e1];simp only [Option.some.injEq] at a;subst a;exact ⟨aa,t0,E,F,t3,rfl,hD.sam O fun k b q=>by have:=(hD.low b).1;omega⟩
  ·rw [if_neg e1] at a;dsimp only;rw [if_neg e1];obtain ⟨a1,u0,u1,u2,u3,rfl,V⟩:=h5 j v a;refine ⟨a1,u0,u1,u2,u3,rfl, ?_⟩
   have b1:=V.sam hS fun k b a7=>by
    obtain ⟨Q,g,s⟩:=hv k a7;exact h6 j e _ Q e1 a g k (vB_is.2 b) s
   exact b1.sam O fun k b q=>by have:=(b1.low b).1;omega
 ·have r:∀ i u,i≠e→lk ls i=some u→∀ k,vB u k→¬ mtB t0 E F t3 k:=fun i u hi V k K a8=>by
   rcases M k a8 with q | q
   ·obtain ⟨Q,g,s⟩:=hv k q;exact h6 i e u Q hi V g k K s
   ·obtain ⟨_,u0,u1,u2,u3,rfl,ab⟩:=h5 i u V;have:=(ab.low (vB_is.1 K)).2;have:=T.size;omega
  rw [t j] at a;rw [t Y] at d;by_cases e1:j=e
  ·rw [if_pos e1] at a;rw [if_neg (fun e2=>z (e1.trans e2.symm))] at d;simp only [Option.some.injEq] at a;subst a;exact r Y v' (fun e3=>z (e1.trans e3.symm)) d k A (vB_is.1 b)
  ·rw [if_neg e1] at a;by_cases e3:Y=e
   ·rw [if_pos e3] at d;simp only [Option.some.injEq] at d;subst d;exact r j v e1 a k b (vB_is.1 A)
   ·rw [if_neg e3] at d;exact h6 j Y v v' z a d k b A
 ·rw [t j] at a;by_cases e1:j=e
  ·rw [if_pos e1] at a;simp only [Option.some.injEq] at a;subst a;rcases M k (vB_is.1 b) with q | q
   ·obtain ⟨Q,g,s⟩:=hv k q;exact h7 e Q g k s P
   ·have:=a2 k P;omega
  ·rw [if_neg e1] at a;exact h7 j v a k b P
theorem met_any (w:World) (base n c f g k h m:Nat) (b pa:Option Addr) (o t u v:Value) (p q r s A B C E:Int) (i j a:Nat) (kd:Int) (tv:Bool) (D:MD) (d:Ow w base o t u v D) (z:base≤w.heap.size) (G:a≤1) (h0:D.a0.length≤100000000) (h1:D.b0.length≤100000000) (h2:D.a1.length≤100000000) (h3:D.b1.length≤100000000)
  (CS:Hid (∀ V:World,Bl w V→Rt 190 #[.agg #[.slice b n c,.map (some f),.map (some g),.slice (Az k) n h,.slice pa n m],.agg #[I p,I q,I r,I s],I (i:Int)] V (I (a:Int))))
  (x:Hid (∀ V:World,Bl w V→Rt 191 #[.agg #[.slice b n c,.map (some f),.map (some g)],.agg #[I A,I B,I C,I E]] V (I kd)))
  (F:Hid (∀ V:World,Bl w V→Rt 192 #[.agg #[.slice b n c,.map (some f),.map (some g),.slice (Az k) n h,.slice pa n m],I kd,I (i:Int),I (j:Int)] V (.agg #[I ((fdT kd tv i j).1:Int),I ((fdT kd tv i j).2:Int)]))) :
  Cl 101 #[.agg #[.slice b n c,.map (some f),.map (some g),.slice (Az k) n h,.slice pa n m],.agg #[o,t,u,v],.agg #[I p,I q,I r,I s],I (i:Int),.agg #[I A,I B,I C,I E,I (j:Int)]] w fun e w'=>MtTo w w' base o t u v (mt D kd tv a i j) e:=by
 obtain ⟨a0,c0,rfl,_⟩:=Xi d.o0;obtain ⟨a1,c1,rfl,_⟩:=Xi d.o1;obtain ⟨y,c2,rfl,_⟩:=Xi d.o2;obtain ⟨a3,c3,rfl,_⟩:=Xi d.o3;have l:a=0∨a=1:=γ;by_cases hk:kd=0
 ·subst hk;have e:mt D 0 tv a i j=mtO D a i j:=if_pos rfl;rw [e];exact met_on w base n c f g k h m b pa a0 a1 y a3 c0 c1 c2 c3 p q r s A B C E i j a D d z l h0 h2 CS x
 ·have e:mt D kd tv a i j=mtF D a (fdT kd tv i j):=if_neg hk;rw [e];exact met_fold w base n c f g k h m b pa a0 a1 y a3 c0 c1 c2 c3 p q r s A B C E i j a _ _ kd D d z l hk h1 h3 CS x F
def stJ (kd:E4→Int) (M:Nat→M6) (pl:List T3) (i:Nat) (G:E4→MD) (q:E4×Int):E4→MD :=
 if (i:Int)<q.2 then fun e=>if e=bro (M i) q.1 then mt (G (bro (M i) q.1)) (kd q.1) (tov (M i)) (sd (bro (M i) q.1) (pl.getD i (0,0,0))) i q.2.toNat else G e else G
def gJ (kd:E4→Int) (M:Nat→M6) (pl:List T3) (i:Nat) (G:E4→MD) (l:List (E4×Int)):E4→MD:=l.foldl (stJ kd M pl i) G
def gA (kd:E4→Int) (L:List T3) (M:Nat→M6) (pl:List T3):Nat→E4→MD
 | 0=>fun _=>mdZ
 | i+1=>gJ kd M pl i (gA kd L M pl i) (jl L (L.getD i (0,0,0)) i 3)
theorem gJ_succ (kd:E4→Int) (M:Nat→M6) (pl:List T3) (i:Nat) (G:E4→MD) (l:List (E4×Int)) (a:k<l.length):gJ kd M pl i G (l.take (k+1))=stJ kd M pl i (gJ kd M pl i G (l.take k)) l[k]:=by
 unfold gJ;rw [List.take_succ_eq_append_getElem a,List.foldl_append];rfl
def MdLe (G:E4→MD) (c:Nat):Prop := ∀ e,(G e).a0.length≤c∧(G e).b0.length≤c∧(G e).a1.length≤c∧(G e).b1.length≤c
theorem mt_le {D:MD} {c:Nat} (h:D.a0.length≤c∧D.b0.length≤c∧D.a1.length≤c∧D.b1.length≤c) (kd:Int) (tv:Bool) (a i j:Nat):(mt D kd tv a i j).a0.length≤c+1∧(mt D kd tv a i j).b0.length≤c+1∧(mt D kd tv a i j).a1.length≤c+1∧(mt D kd tv a i j).b1.length≤c+1:=by
 unfold mt mtO mtF;split <;> split <;> simp <;> omega
theorem MdLe.step {kd:E4→Int} {M:Nat→M6} {pl:List T3} {i:Nat} {G:E4→MD} {c:Nat} (h:MdLe G c) (q:E4×Int):MdLe (stJ kd M pl i G q) (c+1):=fun e=>by
 unfold stJ;split
 ·dsimp only;split
  ·exact mt_le (h _) _ _ _ _ _
  ·have:=h e;omega
 ·have:=h e;omega
theorem mt_ne (D:MD) (kd:Int) (tv:Bool) (a i j:Nat):mt D kd tv a i j≠mdZ:=by
 unfold mt mtO mtF mdZ;split <;> split <;> simp
def StCopyF (w w':World) (W H:Int) (zl n mn:Nat) (zs ks:List Int) (M:Nat→M6) (S:List (T3×List T3)) (e:Ending):Prop := ∃ a' ca' b' cb' ma mc t u,e=.returned (.agg #[I W,I H,.slice a' zl ca',.slice b' n cb',.slice ma mn mc,.slice t S.length u])∧Row w' a' zs∧Row w' b' ks∧(0<mn→∃ g,ma=Az g∧MRow w' g mn M)∧SRow w' t S∧Bl w w'∧(b'=none∨∃ p o,b'=Ad p o)
theorem stateOf_form (W H:Int) (a c mp sp:Option Addr) (zl ca n cc N mc sc:Nat) (zs ks:List Int) (M:Nat→M6) (S:List (T3×List T3)) (w:World)
  (CO:Hid (∀ V:World,Bl w V→Cl 37 #[.agg #[I W,I H,.slice a zl ca,.slice c n cc]] V fun e w'=>∃ O r z y,e=.returned (.agg #[I W,I H,.slice O zl r,.slice z n y])∧RowF w' V.heap.size O zs∧RowF w' V.heap.size z ks∧Bl V w'∧(z=none∨∃ p o,z=Ad p o)))
  (hM:MRowG w mp N M) (ch:N≤2932031007402) (hS:SRowG w sp S) (cz:S.length≤2932031007402) (bm:∀ s∈S,s.2.length≤5864062014805) :
  Cl 9 #[.agg #[I W,I H,.slice a zl ca,.slice c n cc,.slice mp N mc,.slice sp S.length sc]] w fun e w'=>StCopyF w w' W H zl n N zs ks M S e:=by
 obtain ⟨cj,br,bs,bt,bu⟩:=info_parts inf98H;have a2:=H4 br bs bt bu;have HR:Hid (MRowG w mp N M∧SRowG w sp S∧∀ s∈S,s.2.length≤5864062014805):=⟨hM,hS,bm⟩;clear br bs bt bu hM hS bm;go_enter Tryz.func9,Tryz.ntmps9;go_upto_region 1 with fail
 refine Qi (fun b hW0=>?_)
 have G:Hid (Bl w b∧BoxR b (w.heap.size+1)∧b.heap.size=w.heap.size+2):=by
  rw [hW0];exact ⟨Qb β1,boxR_new _,ξ⟩
 have x0:At b w.heap.size 0 (I W):=ν;have x1:At b w.heap.size 1 (I H):=ν;have x2:At b w.heap.size 2 (.slice a zl ca):=ν;have x3:At b w.heap.size 3 (.slice c n cc):=ν;have x4:At b w.heap.size 4 (.slice mp N mc):=ν;have x5:At b w.heap.size 5 (.slice sp S.length sc):=ν;have b9:=H6 x0 x1 x2 x3 x4 x5;have z0:=Bt x0;clear hW0;go_cut [3] (fun s3 wx=>∃ (B:Nat) (O z Z:Option Addr) (r y L:Nat),s3=.pointer (Az B)∧RowX wx b.heap.size B O zs∧RowX wx b.heap.size B z ks∧MapX wx b.heap.size B N M Z∧HSt b wx B (I W) (I H) (.slice O zl r) (.slice z n y) (.slice Z N L) SN [] []∧(z=none∨∃ p o,z=Ad p o))
 case first =>
  go_region_held3 (fun w'=>At w' w.heap.size 0 (I W)∧At w' w.heap.size 1 (I H)∧At w' w.heap.size 2 (.slice a zl ca)∧At w' w.heap.size 3 (.slice c n cc)∧At w' w.heap.size 4 (.slice mp N mc)∧At w' w.heap.size 5 (.slice sp S.length sc))
   ((refine ⟨?_, ?_, ?_, ?_, ?_, ?_⟩ <;> (repeat' (first | (with_reducible assumption) | (with_reducible refine Xh ?_ ?_) | (dsimp only;omega) | (simp [go_sem];done) | (with_reducible refine Qk ?_) | (with_reducible refine Qq ?_)))))
   (first
    | (go_at_call 37;refine (CO.out _ (Qc G.out.1 γ1)).mono ?_;rintro e F ⟨O,r,z,y,rfl,hz,hk,m,hf⟩;have HF:=Hd hf;clear hf;have b6:At F w.heap.size 0 (I W):=Qa m ζ;have cl:At F w.heap.size 1 (I H):=Qa m ζ;have cn:At F w.heap.size 2 (.slice a zl ca):=Qa m ζ;have cp:At F w.heap.size 3 (.slice c n cc):=Qa m ζ;have ct:At F w.heap.size 4 (.slice mp N mc):=Qa m ζ;have cv:At F w.heap.size 5 (.slice sp S.length sc):=Qa m ζ;(first | (have Q:=fresh6a (g:=b.heap.size) rfl m;have f:Hid (Bl b F∧RowF F (b.heap.size+1) O zs∧RowF F (b.heap.size+1) z ks∧BoxR F b.heap.size):=⟨Qc β1 m,hz.low ξ,hk.low ξ,Q⟩;clear Q) | (have Q:=fresh6d (g:=b.heap.size) rfl m;have f:Hid (Bl b F∧RowF F (b.heap.size+1) O zs∧RowF F (b.heap.size+1) z ks∧BoxR F b.heap.size):=⟨Qc (Qg β1) m,hz.low ξ,hk.low ξ,Q⟩;clear Q) | (have f:Hid (Bl b F∧RowF F b.heap.size O zs∧RowF F b.heap.size z ks):=⟨Qc φ m,hz,hk⟩));have d8:=Bt b6;clear hz hk m)
    | (refine Kh Ω (.const SN) (.tmp 9) Ω Ω mp N mc M Ω Ω (HR.out.1.kept (Qc G.out.1 (by with_reducible repeat (first | exact f.out.1 | refine Qg ?_ | refine Qb ?_)))) ch ?_;intro v4 h cg;obtain ⟨Z,L,rfl,ad,m⟩:=cg;have b7:At h w.heap.size 0 (I W):=Qa m ζ;have cm:At h w.heap.size 1 (I H):=Qa m ζ;have co:At h w.heap.size 2 (.slice a zl ca):=Qa m ζ;have cr:At h w.heap.size 3 (.slice c n cc):=Qa m ζ;have cu:At h w.heap.size 4 (.slice mp N mc):=Qa m ζ;have cw:At h w.heap.size 5 (.slice sp S.length sc):=Qa m ζ;(first | (have Q:=fresh6a (g:=F.heap.size) rfl m;have C:Hid (Bl b h∧(RowX h b.heap.size F.heap.size O zs∧RowX h b.heap.size F.heap.size z ks)∧MapX h b.heap.size F.heap.size N M Z∧BoxR h F.heap.size):=⟨Qc f.out.1 (Qc β1 m),⟨(f.out.2.1.x2 (Nr _) (Nr _)).kept (Qc β1 m),(f.out.2.2.x2 (Nr _) (Nr _)).kept (Qc β1 m)⟩,CopyM.x ad (by have:=f.out.1.size;simp;omega) (Or.inl ξ),Q⟩;clear Q;obtain ⟨⟨f0,f1,f2,f3,f4,f5⟩,D⟩:=C.out.2.2.2;have bb:=D 0;have bc:=D 1;have be:=D 2;have bf:=D 3;have bg:=D 4;have bh:=D 5;have zf:=Bt f0;clear D) | (have C:Hid (Bl b h∧(RowX h b.heap.size b.heap.size O zs∧RowX h b.heap.size b.heap.size z ks)∧MapX h b.heap.size b.heap.size N M Z∧BoxR h b.heap.size):=⟨Qc f.out.1 m,⟨(f.out.2.1.x1 (Nat.le_succ _) (Nat.lt_succ_self _)).kept m,(f.out.2.2.1.x1 (Nat.le_succ _) (Nat.lt_succ_self _)).kept m⟩,CopyM.x ad (by have:=f.out.1.size;omega) (Or.inl (by have:=f.out.2.2.2.1.1;exact bk this)),f.out.2.2.2.kept m⟩;obtain ⟨⟨f0,f1,f2,f3,f4,f5⟩,D⟩:=C.out.2.2.2;have bb:=D 0;have bc:=D 1;have be:=D 2;have bf:=D 3;have bg:=D 4;have bh:=D 5;have zf:=Bt f0;clear D) | (have C:Hid (Bl b h∧(RowX h b.heap.size h.heap.size O zs∧RowX h b.heap.size h.heap.size z ks)∧MapX h b.heap.size h.heap.size N M Z):=⟨Qc f.out.1 m,⟨(f.out.2.1.kept m).x2 (Nr _) (Nr _),(f.out.2.2.kept m).x2 (Nr _) (Nr _)⟩,CopyM.x ad (by have:=f.out.1.size;omega) (Or.inr (Nr _))⟩));have d9:=Bt b7;clear ad m)
    | fail)
  all_goals
   go_wp2;go_meet
   case rel =>
    refine ⟨_,O,z,Z,r,y,L,rfl, ?_, ?_, ?_,hst_nil γ3 γ3 γ3 γ3 γ3 γ3 γ3 (by first | exact Nr _ | exact C.out.1.size | exact f.out.1.size) ?_,HF.out⟩
    ·with_reducible repeat' (first | exact C.out.2.1.1 | refine RowX.setB ?_ | refine RowX.al ?_)
    ·with_reducible repeat' (first | exact C.out.2.1.2 | refine RowX.setB ?_ | refine RowX.al ?_)
    ·with_reducible repeat' (first | exact C.out.2.2.1 | exact C.out.2.2 | refine MapX.setB ?_ | refine MapX.al ?_)
    ·with_reducible repeat' (first | exact C.out.1 | refine Qh ?_ ?_ | refine Qb ?_ | refine Qg ?_)
     all_goals first | exact Nr _ | exact C.out.1.size | exact f.out.1.size
 case rest =>
  obtain ⟨B,O,z,Z,r,y,L,rfl,ay,az,ar,ae,bp⟩:=hcut;have HF:=Hd bp;clear bp;obtain ⟨wL,cd⟩:∃ wL,wL=wc:=⟨_,rfl⟩;rw [← cd] at ay az ar ae ⊢;clear cd x0 x1 x2 x3 x4 x5 z0;have HL:=H5 ay az ar ae ae.low;clear ay az ar ae;go_wp2;go_loopg [4] S.length (fun gk s4 wx=>∃ (i:Nat) (v:Value) (R:List (T3×Value)),i≤S.length∧gk=S.length - i∧s4=I (i:Int)∧(HSt b wx B (I W) (I H) (.slice O zl r) (.slice z n y) (.slice Z N L) v R (S.take i)∧wL.grownBy wx (some B)∧∀ g,v.ownBlock=some g→wL.heap.size≤g))
  case atStart=>exact ⟨0,_,[],γ,rfl,rfl,HL.out.2.2.2.1,bl_grown' (Qe _),fun g e=>by simp [Value.ownBlock] at e⟩
  case round =>
   obtain ⟨i,v,R,hi,rfl,rfl,hS,bq,cb⟩:=hrel;have A:Hid (HSt b wr B (I W) (I H) (.slice O zl r) (.slice z n y) (.slice Z N L) v R (S.take i)∧wL.grownBy wr (some B)∧(∀ g,v.ownBlock=some g→wL.heap.size≤g)∧R.length=i):=⟨hS,bq,cb,by rw [hS.len,List.length_take];omega⟩;have x5:=Qa hS.bel b9.out.2.2.2.2.2;have z5:=Bt x5;clear hS bq cb;by_cases h1:i<S.length
   ·have i1:(i:Int)<(S.length:Int):=γ;have i0:(0:Int)≤(i:Int):=γ;obtain ⟨T,os,sa,af,rfl,c0,c1,c2,c3,bo,bn⟩:=HR.out.2.1 i h1;obtain ⟨X,Y,K,ap⟩:∃ X Y K,S[i].1=(X,Y,K):=⟨_,_,_,rfl⟩;obtain ⟨l,hl⟩:∃ l,l=S[i].2.length:=⟨_,rfl⟩;rw [ap] at c0 c1 c2;rw [← hl] at c3;dsimp only at c0 c1 c2;have j:Hid (∀ wx:World,Bl b wx→At wx w.heap.size 5 (.slice (Ad T os) S.length sc)∧At wx T (os+i*4) (I X)∧At wx T (os+i*4+1) (I Y)∧At wx T (os+i*4+2) (I K)∧At wx T (os+i*4+3) (.slice sa l af)):=fun wx hx=>⟨Qa hx b9.out.2.2.2.2.2,Qa (Qc G.out.1 hx) c0,Qa (Qc G.out.1 hx) c1,Qa (Qc G.out.1 hx) c2,Qa (Qc G.out.1 hx) c3⟩;have ac:Bl b wr.drew:=Qg A.out.1.bel;have bv:S[i].2.length≤5864062014805:=HR.out.2.2 _ (Lm h1);obtain ⟨a4,c4,h,aw,ao,aq,E⟩:=run_copyT wr.drew sa S[i].2 af (bn.kept (Qc G.out.1 ac)) bv;rw [← hl] at aw ao aq;have U:=(A.out.1.kept (Qg (Qe _))).kept (Qc E (Qb (o:=.cells #[I X,I Y,I K,.slice a4 l c4] 107) (Qe _)));have am:Bl b h:=Qc ac E;have ab:Bl b (h.alloc (.cells #[I X,I Y,I K,.slice a4 l c4] 107)):=Qb am;have bw:R.length=i:=A.out.2.2.2;have cx:B<wr.heap.size:=A.out.1.lt;have bz:wr.heap.size≤h.heap.size:=by have:=E.size;simpa using this
    obtain ⟨v7,w6,ax,av,J,_,a6⟩:=run_append_own_at (P:=Tryz.prog) (h.alloc (.cells #[I X,I Y,I K,.slice a4 l c4] 107)) (B+1) 27 27 107 cj (.agg #[I 0,I 0,I 0,SN]) 4 48 Tryz.underlying27 a2.out.1 a2.out.2.1 a2.out.2.2.1 a2.out.2.2.2 rfl ψ v R.length (rowS R) U.own ⟨h.heap.size,0,none⟩ 1 1 [I X,I Y,I K,.slice a4 l c4] rfl (cell_four_new _ _ _ _ _) (by intro u hu;simp at hu;rcases hu with rfl | rfl | rfl | rfl <;> rfl) Ξ γ ω;obtain ⟨a7,c7,rfl,_⟩:=Xi av;have an:Bl b w6:=ab.grown J ab.size (fun k hk=>by have:=Qw U.own k hk;have:=HL.out.2.2.2.2;omega);have bi:Bl b (w6.setCell ⟨B,5,none⟩ (.slice a7 (R.length+1) c7)):=Qh an HL.out.2.2.2.2;have ag:∀ g,v.ownBlock=some g→g<wr.heap.size:=fun g e=>(A.out.1.own.lt g e).2
    have bj:=U.add (t:=(X,Y,K)) (u:=.slice a4 l c4) (l:=S[i].2) J av a6 (fun g e=>by
     have h9:=aq g e;have h8:wr.heap.size≤g:=by have:=h9.1;simpa using this
     refine ⟨γ,ω,fun e2=>?_⟩;have:=ag g e2;omega) (ao.kept β1)
    have ba:S.take (i+1)=S.take i ++ [((X,Y,K),S[i].2)]:=by
     rw [List.take_succ_eq_append_getElem h1,← ap]
    have ak:Hid (HSt b (w6.setCell ⟨B,5,none⟩ (.slice a7 (R.length+1) c7)) B (I W) (I H) (.slice O zl r) (.slice z n y) (.slice Z N L) (.slice a7 (R.length+1) c7) (R ++ [((X,Y,K),.slice a4 l c4)]) (S.take (i+1))∧wL.grownBy (w6.setCell ⟨B,5,none⟩ (.slice a7 (R.length+1) c7)) (some B)∧∀ g,(Value.slice a7 (R.length+1) c7).ownBlock=some g→wL.heap.size≤g):=by
     have d6:=A.out.2.1.size;refine ⟨by rw [ba];exact bj,Ji (gb_step (row:=v.ownBlock) (gb_step A.out.2.1 (Qy (Qg (Qe _))) (fun g e=>by cases e)) ?_ ?_) (Ql w6 B 5 _),fun g e=>?_⟩
     ·exact ⟨J.os.trans (Qy (Qc E β1)).os,J.tape.trans (Qy (Qc E β1)).tape,J.output.trans (Qy (Qc E β1)).output,Nt (Qc E β1).size J.size,fun k hk ci=>(J.block k (Nl hk (Qc E β1).size) ci).trans ((Qc E β1).block k hk)⟩
     ·exact fun g e=>A.out.2.2.1 g e
     ·rcases a6 with e2 | e2
      ·exact A.out.2.2.1 g (e2.symm.trans e)
      ·rw [e2] at e
       cases e;simp;omega
    have au:some B≠v.ownBlock:=fun e=>by
     have:=Qw U.own B e.symm;omega
    have e0:=A.out.1.c5;have e4:At h B 5 v:=Qa E (by simpa [go_sem] using e0);have e5:(h.alloc (.cells #[I X,I Y,I K,.slice a4 l c4] 107)).cell? ⟨B,5,none⟩=some v:=Qk e4;have q0:At w6 B 5 v:=J.cell e5 au;have q1:Fn w6 B 5:=(Fo (a:=⟨B,5,none⟩) (J.block B U.lt au)).trans U.f5;have b8:=Hd ac;have ah:=Hd am;have a8:=Hd ab;have ai:=Hd an;have aj:=Hd bi;have d7:B<h.heap.size:=γ;clear ac am ab an bi bj U ba a6 J av ao aq E bn bo c0 c1 c2 c3 ap hl bv ag au bz bw;go_upto_region 5 with fail
    clear x5 z5;refine wp_region_held_drew (S:=fun w'=>At w' w.heap.size 5 (.slice (Ad T os) S.length sc)∧At w' T (os+i*4) (I X)∧At w' T (os+i*4+1) (I Y)∧At w' T (os+i*4+2) (I K)∧At w' T (os+i*4+3) (.slice sa l af)) η (j.out _ b8.out) (fun cf=>?_);refine Tk 0 (.pointer (Ad B 5)) ?_;refine Tk 2 (.pointer (Ad w.heap.size 5)) ?_;refine Tk 3 (.slice (Ad T os) S.length sc) ?_;refine Tk 4 (I (i:Int)) ?_;refine Tk 5 (.pointer (Ad T (os+i*4))) ?_;refine Tk 6 (.pointer (Ad T (os+i*4))) ?_;refine Tk 7 (.agg #[I X,I Y,I K]) ?_;refine Tk 8 (.pointer (Ad w.heap.size 5)) ?_;refine Tk 9 (.slice (Ad T os) S.length sc) ?_;refine Tk 10 (I (i:Int)) ?_;refine Tk 11 (.pointer (Ad T (os+i*4))) ?_;refine Tk 12 (.pointer (Ad T (os+i*4+3))) ?_;refine Tk 13 (.slice sa l af) ?_;refine wpAnyH_ready (rs:=[1,14]) η ξ ?_;refine AllReadyH.cons rfl (fun K d=>?_) (AllReadyH.cons rfl (fun K d=>?_) AllReadyH.nil)
    ·go_simp;refine d.out _ _ (j.out _ b8.out) (fun q=>?_);clear d K;try simp only [Ap]
     refine Rd 14 rfl (fun K d=>?_);rw [if_pos Ω];refine Je (.const SN) (.tmp 32) 55 rfl _ _ (.slice a4 l c4) h rfl rfl aw ?_;refine d.out _ _ (j.out _ ah.out) (fun q=>?_);clear d K;try simp only [Ap]
     refine Tk 15 (.agg #[I X,I Y,I K,.slice a4 l c4]) ?_;refine Rd 16 rfl (fun K d=>?_);go_simp;refine d.out _ _ (j.out _ a8.out) (fun q=>?_);clear d K;try simp only [Ap]
     refine Rd 17 rfl (fun K d=>?_);rw [if_pos Ω];refine Je (.tmp 20) (.tmp 35) 27 rfl _ _ (.slice a7 (R.length+1) c7) w6 rfl rfl ax ?_;refine d.out _ _ (j.out _ ai.out) (fun q=>?_);clear d K;try simp only [Ap]
     refine Tk 18 (.pointer (Ad B 5)) ?_;refine Rd 19 rfl (fun K d=>?_);go_simp;refine d.out _ _ (j.out _ aj.out) (fun q=>?_);clear d K;try simp only [Ap]
     refine wpAnyH_done η ?_ _;go_wp2;go_roundg (S.length - (i+1))
     case measure=>omega
     case rel=>exact ⟨i+1,_,_,γ,rfl,σ,ak.out⟩
    ·rw [if_pos Ω];refine Je (.const SN) (.tmp 32) 55 rfl _ _ (.slice a4 l c4) h rfl rfl aw ?_;refine d.out _ _ (j.out _ ah.out) (fun q=>?_);clear d K;try simp only [Ap]
     refine Tk 15 (.agg #[I X,I Y,I K,.slice a4 l c4]) ?_;refine wpAnyH_ready (rs:=[1,16]) η ξ ?_;refine AllReadyH.cons rfl (fun K d=>?_) (AllReadyH.cons rfl (fun K d=>?_) AllReadyH.nil)
     ·go_simp;refine d.out _ _ (j.out _ ah.out) (fun q=>?_);clear d K;try simp only [Ap]
      refine Rd 16 rfl (fun K d=>?_);go_simp;refine d.out _ _ (j.out _ a8.out) (fun q=>?_);clear d K;try simp only [Ap]
      refine Rd 17 rfl (fun K d=>?_);rw [if_pos Ω];refine Je (.tmp 20) (.tmp 35) 27 rfl _ _ (.slice a7 (R.length+1) c7) w6 rfl rfl ax ?_;refine d.out _ _ (j.out _ ai.out) (fun q=>?_);clear d K;try simp only [Ap]
      refine Tk 18 (.pointer (Ad B 5)) ?_;refine Rd 19 rfl (fun K d=>?_);go_simp;refine d.out _ _ (j.out _ aj.out) (fun q=>?_);clear d K;try simp only [Ap]
      refine wpAnyH_done η ?_ _;go_wp2;go_roundg (S.length - (i+1))
      case measure=>omega
      case rel=>exact ⟨i+1,_,_,γ,rfl,σ,ak.out⟩
     ·go_simp;refine d.out _ _ (j.out _ a8.out) (fun q=>?_);clear d K;try simp only [Ap]
      refine Rd 1 rfl (fun K d=>?_);go_simp;refine d.out _ _ (j.out _ a8.out) (fun q=>?_);clear d K;try simp only [Ap]
      refine Rd 17 rfl (fun K d=>?_);rw [if_pos Ω];refine Je (.tmp 20) (.tmp 35) 27 rfl _ _ (.slice a7 (R.length+1) c7) w6 rfl rfl ax ?_;refine d.out _ _ (j.out _ ai.out) (fun q=>?_);clear d K;try simp only [Ap]
      refine Tk 18 (.pointer (Ad B 5)) ?_;refine Rd 19 rfl (fun K d=>?_);go_simp;refine d.out _ _ (j.out _ aj.out) (fun q=>?_);clear d K;try simp only [Ap]
      refine wpAnyH_done η ?_ _;go_wp2;go_roundg (S.length - (i+1))
      case measure=>omega
      case rel=>exact ⟨i+1,_,_,γ,rfl,σ,ak.out⟩
   ·have i1:¬ (i:Int)<(S.length:Int):=γ;obtain rfl:i=S.length:=γ;obtain ⟨t9,u9,rfl,b5⟩:=A.out.1.srowE HL.out.2.2.2.2;rw [List.take_length] at b5;obtain ⟨⟨f0,f1,f2,f3,f4,f5⟩,D⟩:=G.out.2.1.kept A.out.1.bel;have bb:=D 0;have bc:=D 1;have be:=D 2;have bf:=D 3;have bg:=D 4;have bh:=D 5;have d0:=A.out.1.c0;have d1:=A.out.1.c1;have d2:=A.out.1.c2;have d3:=A.out.1.c3;have d4:=A.out.1.c4;have d5:=A.out.1.c5;rw [List.take_length] at d5;have zB:B<wr.heap.size:=A.out.1.lt;have zF:=Bt f0;have zW:w.heap.size+1<b.heap.size:=by rw [G.out.2.2];omega
    have cy:B≠w.heap.size+1:=by have:=HL.out.2.2.2.2;omega
    have ce:=Hd b5;have aa:=H4 (HL.out.1.grown A.out.2.1) (HL.out.2.1.grown A.out.2.1) (HL.out.2.2.1.grown A.out.2.1) (Qc G.out.1 A.out.1.bel);clear D b5;go_wp2;refine bodyPost_ret (v:=.agg #[I W,I H,.slice O zl r,.slice z n y,.slice Z N L,.slice t9 S.length u9]) (by simp [results,Tryz.results9,go_sem, *]) rfl ⟨O,r,z,y,Z,L,t9,u9,rfl,RowX.row (base:=b.heap.size) (B:=B) ?_,RowX.row (base:=b.heap.size) (B:=B) ?_,fun h0=>?_,SRowE.row (base:=b.heap.size) ?_, ?_,HF.out⟩
    ·with_reducible repeat' (first | exact aa.out.1 | refine RowX.set ?_ ?_)
     all_goals exact zW
    ·with_reducible repeat' (first | exact aa.out.2.1 | refine RowX.set ?_ ?_)
     all_goals exact zW
    ·have h9:MapX (set6x wr (w.heap.size+1) (I W) (I H) (.slice O zl r) (.slice z n y) (.slice Z N L) (.slice t9 S.length u9)) b.heap.size B N M Z:=by
      unfold set6x;with_reducible repeat' (first | exact aa.out.2.2.1 | refine MapX.set ?_ ?_)
      all_goals exact zW
     obtain ⟨g,e,hm,_⟩:=h9 h0;exact ⟨g,e,hm⟩
    ·with_reducible repeat' (first | exact ce.out | refine SRowE.set ?_ ?_)
     all_goals exact zW
    ·with_reducible repeat' (first | exact aa.out.2.2.2 | refine Qh ?_ ?_)
     all_goals (dsimp only;omega)
theorem state_copyF (W H:Int) (a c C D:Option Addr) (q r n i E F:Nat) (zs k:List Int) (M:Nat→M6) (S:List (T3×List T3)) (w:World) (O:Row w a zs) (L:Row w c k) (N:k.length=n*5) (h1:zs.length≤17592186044416) (h2:n≤3518437208883) (J:MRowG w C i M) (B:i≤2932031007402) (K:SRowG w D S) (x:S.length≤2932031007402) (v:∀ s∈S,s.2.length≤5864062014805):∀ V:World,Bl w V→Cl 9 #[.agg #[I W,I H,.slice a zs.length q,.slice c n r,.slice C i E,.slice D S.length F]] V fun e w'=>∃ h b f d m g t u,e=.returned (.agg #[I W,I H,.slice h zs.length b,.slice f n d,.slice m i g,.slice t S.length u])∧CopyAt w' i zs k M S h f m t∧(f=none∨∃ p o,f=Ad p o)∧Bl V w':=fun V l =>
 (stateOf_form W H a c C D zs.length q n r i E F zs k M S V (fun G j=>(Kl W H a c q r n zs k G (O.kept (Qc l j)) (L.kept (Qc l j)) N h1 h2).mono fun _e _w' ⟨h,b,f,d,z,r1,r2,y,A⟩=>⟨h,b,f,d,z,r1,r2,y,A⟩) (J.kept l) B (K.kept l) x v).mono fun _e _w' ⟨h,b,f,d,m,g,t,u,z,r1,r2,r3,P,y,A⟩=>⟨h,b,f,d,m,g,t,u,z,⟨r1,r2,r3,P⟩,A,y⟩
end Go.Proofs.YtnpboeodhpenmaaGreatDoor
