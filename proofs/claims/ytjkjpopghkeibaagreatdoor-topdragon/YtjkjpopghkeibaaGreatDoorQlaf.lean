/- A part of it. -/
import Derived.Test.YtjkjpopghkeibaaGreatDoorQlab
import Derived.BigQuiet
import Derived.Test.YtjkjpopghkeibaaGreatDoorQlad
import Derived.Laws.CopyOwn
set_option maxRecDepth 100000
set_option maxHeartbeats 40000000
namespace Go.Proofs.YtjkjpopghkeibaaGreatDoor
open Go.RowKit
variable {W w:World} {base c i m n:Nat} {a:Act} {v:Value} {L:Array Bool} {P:Program} {Q:Exit→Act→World→Prop} {o:Oper} {zs:List Int}
def shB (z k:Int):Int:=if k=0 then z else if k=1 then z / 2 else if k=2 then z / 4 else z / 8
def bitB (z k:Int):Bool:=decide (shB z k % 2=1)
theorem bit_eq (z k:Int) (h0:0≤z) (h1:z≤15) (k0:0≤k) (k3:k≤3):(bits BinOp.and IntKind.i64 (z / 2 ^ k.toNat) 1 == 1)=bitB z k:=by
 have b:z=0∨z=1∨z=2∨z=3∨z=4∨z=5∨z=6∨z=7∨z=8∨z=9∨z=10∨z=11∨z=12∨z=13∨z=14∨z=15:=γ;have a:k=0∨k=1∨k=2∨k=3:=γ;rcases b with rfl | rfl | rfl | rfl | rfl | rfl | rfl | rfl | rfl | rfl | rfl | rfl | rfl | rfl | rfl | rfl <;> rcases a with rfl | rfl | rfl | rfl <;> rfl
def bitAt (zs:List Int) (W x y k:Nat):Bool:=bitB (zs.getD (y*W+x) 0) k
def tk (zs:List Int) (W x y n:Nat):List T3:=((List.range n).filter (fun k=>bitAt zs W x y k)).map (fun (k:Nat)=>((x:Int),(y:Int),(k:Int)))
def tx (zs:List Int) (W y n:Nat):List T3:=(List.range n).flatMap (fun x=>tk zs W x y 4)
def ty (zs:List Int) (W n:Nat):List T3:=(List.range n).flatMap (fun y=>tx zs W y W)
theorem tk_zero (zs:List Int) (W x y:Nat):tk zs W x y 0=[]:=by simp [tk]
theorem tx_zero (zs:List Int) (W y:Nat):tx zs W y 0=[]:=by simp [tx]
theorem tk_yes {W x y:Nat} (h:bitAt zs W x y n=true):tk zs W x y (n+1)=tk zs W x y n ++ [((x:Int),(y:Int),(n:Int))]:=by
 simp [tk,List.range_succ,List.filter_append,h]
theorem tk_no {W x y:Nat} (h:bitAt zs W x y n=false):tk zs W x y (n+1)=tk zs W x y n:=by
 simp [tk,List.range_succ,List.filter_append,h]
theorem Qbj (zs:List Int) (W y n:Nat):tx zs W y (n+1)=tx zs W y n ++ tk zs W n y 4:=by
 simp [tx,List.range_succ,List.flatMap_append]
theorem Qbi (zs:List Int) (W n:Nat):ty zs W (n+1)=ty zs W n ++ tx zs W n W:=by
 simp [ty,List.range_succ,List.flatMap_append]
theorem tk_len (zs:List Int) (W x y n:Nat):(tk zs W x y n).length≤n:=by
 unfold tk;rw [List.length_map];exact Nt (List.length_filter_le _ _) ξ
theorem tx_len (zs:List Int) (W y n:Nat):(tx zs W y n).length≤4*n:=by
 induction n with
 | zero=>simp [tx]
 | succ n ih =>
  rw [Qbj,List.length_append];have:=tk_len zs W n y 4;omega
theorem Yu (zs:List Int) (W n:Nat) (a:W≤8):(ty zs W n).length≤32*n:=by
 induction n with
 | zero=>simp [ty]
 | succ n ih =>
  rw [Qbi,List.length_append];have:=tx_len zs W n W;omega
def flatV (l:List T3):List Value:=l.flatMap fun t=>[I t.1,I t.2.1,I t.2.2]
theorem Xr (l m:List T3):flatV (l ++ m)=flatV l ++ flatV m:=by simp [flatV,List.flatMap_append]
theorem Xg (w:World) (a b c:Int):∀ j u,([I a,I b,I c])[j]?=some u→(w.alloc (.cells #[I a,I b,I c] 39)).cell? ((⟨w.heap.size,0,none⟩:Addr).add j)=some u:=by
 intro j u d;match j,d with
 | 0,d=>simp at d;subst d;simp [go_sem,Addr.add]
 | 1,d=>simp at d;subst d;simp [go_sem,Addr.add]
 | 2,d=>simp at d;subst d;simp [go_sem,Addr.add]
theorem Qj {w':World} {e:TypeId} {size:Nat} {c:List Value} (h:w.ownsRow base e size v n c) (d:Bl w w'):w'.ownsRow base e size v n c:=by
 refine ⟨h.1, ?_⟩;rcases h.2 with ⟨h1,h2⟩ | ⟨g,a,b,h1,h2,h3,h4⟩
 ·exact .inl ⟨h1,h2⟩
 ·refine .inr ⟨g,a,b,h1,h2, ?_,h4⟩
  have hg:g<w.heap.size:=by
   rcases Nat.lt_or_ge g w.heap.size with h | h
   ·exact h
   ·rw [Array.getElem?_eq_none h] at h3;cases h3
  rw [d.block g hg];exact h3
theorem Qw {e:TypeId} {size:Nat} {d:List Value} (h:w.ownsRow base e size v n d):∀ k,v.ownBlock=some k→base≤k:=by
 intro k a;rcases h.2 with ⟨rfl,_⟩ | ⟨g,b,c,rfl,h2,_⟩
 ·simp [Value.ownBlock] at a
 ·simp [Value.ownBlock] at a;omega
def TI (w wx:World) (W H b off cap:Nat) (zs:List Int) (c v:Value) (L:List T3):Prop :=
 wx.ownsRow (w.heap.size+1) 39 3 v L.length (flatV L)∧Sh wx w.heap.size (I (W:Int)) (I (H:Int)) (.slice (Ad b off) zs.length cap) c∧Bl w wx∧w.heap.size+1≤wx.heap.size
theorem inf23:(Tryz.prog.info? 39).map (fun i=>(i.zero,i.size,i.bytes))=some (some (.agg #[I 0,I 0,I 0]),3,24):=η
theorem TI.kept {wr e:World} {W H b off a:Nat} {c:Value} {L:List T3} (h:TI w wr W H b off a zs c v L) (d:Bl wr e):TI w e W H b off a zs c v L :=
 ⟨Qj h.1 d,h.2.1.kept d,Qc h.2.2.1 d,Nt h.2.2.2 d.size⟩
attribute [local go_sem ↓] Go.wp_at_zero Go.wp_at_succ
theorem edges_any (x y k:Int) (w:World) (h:triB x y k=true) (hs:Steps w) :
  Cl 226 #[.agg #[I x,I y,I k]] w fun r w'=>r=.returned (.agg #[
   I (eA (2*x+1) (2*y+1) (c1x x k) (c1y y k)),I (eB (2*x+1) (2*y+1) (c1x x k) (c1y y k)),I (eC (2*x+1) (2*y+1) (c1x x k) (c1y y k)),I (eD (2*x+1) (2*y+1) (c1x x k) (c1y y k)),
   I (eA (c1x x k) (c1y y k) (c2x x k) (c2y y k)),I (eB (c1x x k) (c1y y k) (c2x x k) (c2y y k)),I (eC (c1x x k) (c1y y k) (c2x x k) (c2y y k)),I (eD (c1x x k) (c1y y k) (c2x x k) (c2y y k)),
   I (eA (c2x x k) (c2y y k) (2*x+1) (2*y+1)),I (eB (c2x x k) (c2y y k) (2*x+1) (2*y+1)),I (eC (c2x x k) (c2y y k) (2*x+1) (2*y+1)),I (eD (c2x x k) (c2y y k) (2*x+1) (2*y+1))])∧Bl w w':=by
 have d:=Hd hs;clear hs;go_enter Tryz.func226,Tryz.ntmps226;go_wp2_with (go_at_call 118;refine (Qar _ _ _ _ h (d.out.kept β2)).mono ?_;rintro r w1 ⟨rfl,b⟩;have r0:At w1 (w.heap.size+1) 0 (I 0):=Jd b δ;have f0:Fn w1 (w.heap.size+1) 0:=(b.frozen (p:=⟨w.heap.size+1,0,none⟩) ξ).trans δ;have r1:At w1 (w.heap.size+1) 1 (I 0):=Jd b δ;have f1:Fn w1 (w.heap.size+1) 1:=(b.frozen (p:=⟨w.heap.size+1,1,none⟩) ξ).trans δ;have r2:At w1 (w.heap.size+1) 2 (I 0):=Jd b δ;have f2:Fn w1 (w.heap.size+1) 2:=(b.frozen (p:=⟨w.heap.size+1,2,none⟩) ξ).trans δ;have r3:At w1 (w.heap.size+1) 3 (I 0):=Jd b δ;have f3:Fn w1 (w.heap.size+1) 3:=(b.frozen (p:=⟨w.heap.size+1,3,none⟩) ξ).trans δ;have j:At w1 (w.heap.size+1) 4 (I 0):=Jd b δ;have f4:Fn w1 (w.heap.size+1) 4:=(b.frozen (p:=⟨w.heap.size+1,4,none⟩) ξ).trans δ;have l:At w1 (w.heap.size+1) 5 (I 0):=Jd b δ;have f5:Fn w1 (w.heap.size+1) 5:=(b.frozen (p:=⟨w.heap.size+1,5,none⟩) ξ).trans δ;have m:At w1 (w.heap.size+1) 6 (I 0):=Jd b δ;have f6:Fn w1 (w.heap.size+1) 6:=(b.frozen (p:=⟨w.heap.size+1,6,none⟩) ξ).trans δ;have n:At w1 (w.heap.size+1) 7 (I 0):=Jd b δ;have f7:Fn w1 (w.heap.size+1) 7:=(b.frozen (p:=⟨w.heap.size+1,7,none⟩) ξ).trans δ;have o:At w1 (w.heap.size+1) 8 (I 0):=Jd b δ;have f8:Fn w1 (w.heap.size+1) 8:=(b.frozen (p:=⟨w.heap.size+1,8,none⟩) ξ).trans δ;have q:At w1 (w.heap.size+1) 9 (I 0):=Jd b δ;have f9:Fn w1 (w.heap.size+1) 9:=(b.frozen (p:=⟨w.heap.size+1,9,none⟩) ξ).trans δ;have e:At w1 (w.heap.size+1) 10 (I 0):=Jd b δ;have f10:Fn w1 (w.heap.size+1) 10:=(b.frozen (p:=⟨w.heap.size+1,10,none⟩) ξ).trans δ;have f:At w1 (w.heap.size+1) 11 (I 0):=Jd b δ;have f11:Fn w1 (w.heap.size+1) 11:=(b.frozen (p:=⟨w.heap.size+1,11,none⟩) ξ).trans δ;have z0:w.heap.size+1<w1.heap.size:=World.block_lt_of_cell? (w:=w1) (a:=⟨w.heap.size+1,0,none⟩) r0;have z1:w.heap.size+1<w1.heap.size+1:=γ;have z2:w.heap.size+1<w1.heap.size+1+1:=γ;have z3:w.heap.size+1<w1.heap.size+1+1+1:=γ;have z4:w.heap.size+1<w1.heap.size+1+1+1+1:=γ;have z5:w.heap.size+1<w1.heap.size+1+1+1+1+1:=γ;have z6:w.heap.size+1<w1.heap.size+1+1+1+1+1+1:=γ;have z7:w.heap.size+1<w1.heap.size+1+1+1+1+1+1+1:=γ;have z8:w.heap.size+1<w1.heap.size+1+1+1+1+1+1+1+1:=γ;have z9:w.heap.size+1<w1.heap.size+1+1+1+1+1+1+1+1+1:=γ;have z10:w.heap.size+1<w1.heap.size+1+1+1+1+1+1+1+1+1+1:=γ;have z11:w.heap.size+1<w1.heap.size+1+1+1+1+1+1+1+1+1+1+1:=γ;have c:=Hd (Qc β2 b);clear b)
 go_region_held3 (fun w'=>At w' w1.heap.size 0 (I (2*x+1))∧At w' w1.heap.size 1 (I (2*y+1))∧At w' w1.heap.size 2 (I (c1x x k))∧At w' w1.heap.size 3 (I (c1y y k))∧At w' w1.heap.size 4 (I (c2x x k))∧At w' w1.heap.size 5 (I (c2y y k)))
  ((refine ⟨?_, ?_, ?_, ?_, ?_, ?_⟩ <;> (first | (simp [go_sem];done) | (simp [go_sem,Ca];done) | (repeat' (first | (with_reducible refine Qo ?_ ?_) | (dsimp only;omega) | (simp [go_sem,Ca];done))))))
  (first | (go_at_call 243;refine (edge_num _ _ _ _ _).mono ?_;rintro r s ⟨rfl,o3,g,i,rfl⟩))
 go_wp2;refine bodyPost_ret (v:=.agg #[ I (eA (2*x+1) (2*y+1) (c1x x k) (c1y y k)),I (eB (2*x+1) (2*y+1) (c1x x k) (c1y y k)),I (eC (2*x+1) (2*y+1) (c1x x k) (c1y y k)),I (eD (2*x+1) (2*y+1) (c1x x k) (c1y y k)),I (eA (c1x x k) (c1y y k) (c2x x k) (c2y y k)),I (eB (c1x x k) (c1y y k) (c2x x k) (c2y y k)),I (eC (c1x x k) (c1y y k) (c2x x k) (c2y y k)),I (eD (c1x x k) (c1y y k) (c2x x k) (c2y y k)),I (eA (c2x x k) (c2y y k) (2*x+1) (2*y+1)),I (eB (c2x x k) (c2y y k) (2*x+1) (2*y+1)),I (eC (c2x x k) (c2y y k) (2*x+1) (2*y+1)),I (eD (c2x x k) (c2y y k) (2*x+1) (2*y+1))]) ?_ rfl ⟨rfl, ?_⟩
 ·simp [results,Tryz.results226,go_sem,Ca, *]
 ·with_reducible repeat' (first | exact c.out | refine Qh ?_ ?_ | refine Qb ?_ | refine Qg ?_)
  all_goals (dsimp only;omega)
def ue0 (x y k:Int):Int:=eA (2*x+1) (2*y+1) (c1x x k) (c1y y k)
def ue1 (x y k:Int):Int:=eB (2*x+1) (2*y+1) (c1x x k) (c1y y k)
def ue2 (x y k:Int):Int:=eC (2*x+1) (2*y+1) (c1x x k) (c1y y k)
def ue3 (x y k:Int):Int:=eD (2*x+1) (2*y+1) (c1x x k) (c1y y k)
def ue4 (x y k:Int):Int:=eA (c1x x k) (c1y y k) (c2x x k) (c2y y k)
def ue5 (x y k:Int):Int:=eB (c1x x k) (c1y y k) (c2x x k) (c2y y k)
def ue6 (x y k:Int):Int:=eC (c1x x k) (c1y y k) (c2x x k) (c2y y k)
def ue7 (x y k:Int):Int:=eD (c1x x k) (c1y y k) (c2x x k) (c2y y k)
def ue8 (x y k:Int):Int:=eA (c2x x k) (c2y y k) (2*x+1) (2*y+1)
def ue9 (x y k:Int):Int:=eB (c2x x k) (c2y y k) (2*x+1) (2*y+1)
def ue10 (x y k:Int):Int:=eC (c2x x k) (c2y y k) (2*x+1) (2*y+1)
def ue11 (x y k:Int):Int:=eD (c2x x k) (c2y y k) (2*x+1) (2*y+1)
def sameB (a b c d p q r s:Int):Bool:=decide (a=p∧b=q∧c=r∧d=s)
def e0 (x y k p q r s:Int):Bool:=sameB (ue0 x y k) (ue1 x y k) (ue2 x y k) (ue3 x y k) p q r s
def e1 (x y k p q r s:Int):Bool:=sameB (ue4 x y k) (ue5 x y k) (ue6 x y k) (ue7 x y k) p q r s
def e2 (x y k p q r s:Int):Bool:=sameB (ue8 x y k) (ue9 x y k) (ue10 x y k) (ue11 x y k) p q r s
theorem Zt (x y p q r s:Int):e0 x y 0 p q r s=true↔(2*x=p∧2*y=q∧2*x+1=r∧2*y+1=s):=by
 simp [e0,sameB,ue0,ue1,ue2,ue3,eA,eB,eC,eD,lessB,c1x,c1y,stX,stY] <;> omega
theorem Zn (x y p q r s:Int):e1 x y 0 p q r s=true↔(2*x=p∧2*y=q∧2*x+2=r∧2*y=s):=by
 simp [e1,sameB,ue4,ue5,ue6,ue7,eA,eB,eC,eD,lessB,c1x,c1y,c2x,c2y,stX,stY] <;> omega
theorem Zj (x y p q r s:Int):e2 x y 0 p q r s=true↔(2*x+1=p∧2*y+1=q∧2*x+2=r∧2*y=s):=by
 simp [e2,sameB,ue8,ue9,ue10,ue11,eA,eB,eC,eD,lessB,c2x,c2y,stX,stY] <;> omega
theorem Zs (x y p q r s:Int):e0 x y 1 p q r s=true↔(2*x+1=p∧2*y+1=q∧2*x+2=r∧2*y=s):=by
 simp [e0,sameB,ue0,ue1,ue2,ue3,eA,eB,eC,eD,lessB,c1x,c1y,stX,stY] <;> omega
theorem Zm (x y p q r s:Int):e1 x y 1 p q r s=true↔(2*x+2=p∧2*y=q∧2*x+2=r∧2*y+2=s):=by
 simp [e1,sameB,ue4,ue5,ue6,ue7,eA,eB,eC,eD,lessB,c1x,c1y,c2x,c2y,stX,stY] <;> omega
theorem Zi (x y p q r s:Int):e2 x y 1 p q r s=true↔(2*x+1=p∧2*y+1=q∧2*x+2=r∧2*y+2=s):=by
 simp [e2,sameB,ue8,ue9,ue10,ue11,eA,eB,eC,eD,lessB,c2x,c2y,stX,stY] <;> omega
theorem Zp (x y p q r s:Int):e0 x y 2 p q r s=true↔(2*x+1=p∧2*y+1=q∧2*x+2=r∧2*y+2=s):=by
 simp [e0,sameB,ue0,ue1,ue2,ue3,eA,eB,eC,eD,lessB,c1x,c1y,stX,stY] <;> omega
theorem Zl (x y p q r s:Int):e1 x y 2 p q r s=true↔(2*x=p∧2*y+2=q∧2*x+2=r∧2*y+2=s):=by
 simp [e1,sameB,ue4,ue5,ue6,ue7,eA,eB,eC,eD,lessB,c1x,c1y,c2x,c2y,stX,stY] <;> omega
theorem Zh (x y p q r s:Int):e2 x y 2 p q r s=true↔(2*x=p∧2*y+2=q∧2*x+1=r∧2*y+1=s):=by
 simp [e2,sameB,ue8,ue9,ue10,ue11,eA,eB,eC,eD,lessB,c2x,c2y,stX,stY] <;> omega
theorem Zo (x y p q r s:Int):e0 x y 3 p q r s=true↔(2*x=p∧2*y+2=q∧2*x+1=r∧2*y+1=s):=by
 simp [e0,sameB,ue0,ue1,ue2,ue3,eA,eB,eC,eD,lessB,c1x,c1y,stX,stY] <;> omega
theorem Zk (x y p q r s:Int):e1 x y 3 p q r s=true↔(2*x=p∧2*y=q∧2*x=r∧2*y+2=s):=by
 simp [e1,sameB,ue4,ue5,ue6,ue7,eA,eB,eC,eD,lessB,c1x,c1y,c2x,c2y,stX,stY] <;> omega
theorem Zg (x y p q r s:Int):e2 x y 3 p q r s=true↔(2*x=p∧2*y=q∧2*x+1=r∧2*y+1=s):=by
 simp [e2,sameB,ue8,ue9,ue10,ue11,eA,eB,eC,eD,lessB,c2x,c2y,stX,stY] <;> omega
def hasB (x y k p q r s:Int):Bool:=e0 x y k p q r s || e1 x y k p q r s || e2 x y k p q r s
def acX (x y k p q r s:Int):Int:=if e0 x y k p q r s=true then x else if e1 x y k p q r s=true then x+outX k else if e2 x y k p q r s=true then x else 0
def acY (x y k p q r s:Int):Int:=if e0 x y k p q r s=true then y else if e1 x y k p q r s=true then y+outY k else if e2 x y k p q r s=true then y else 0
def acK (x y k p q r s:Int):Int:=if e0 x y k p q r s=true then (k+3) % 4 else if e1 x y k p q r s=true then (k+2) % 4 else if e2 x y k p q r s=true then (k+1) % 4 else 0
theorem Qx (x y k p q r s:Int):hasB x y k p q r s=true↔(e0 x y k p q r s=true∨e1 x y k p q r s=true∨e2 x y k p q r s=true):=by
 simp [hasB,or_assoc]
def Oth (x y k p q r s dx dy l:Int):Prop:=hasB (x+dx) (y+dy) l p q r s=true∧¬ (x+dx=x∧y+dy=y∧l=k)
theorem Gm (v0 e f v3 v4 v5:Int) (g:Nat) (w:World) (d:∀ W:World,Bl w W→Rt 231 #[.pointer (Az g)] W (.tuple #[.agg #[I v0,I e,I f,I v3,I v4,I v5],I 0])) :
  Rt 230 #[.bool true,.func (.func 231) #[] #[.pointer (Az g)]] w (.tuple #[.agg #[I v0,I e,I f,I v3,I v4,I v5],I 0]):=by
 have i:=Hd d;clear d;go_enter Tryz.func230,Tryz.ntmps230;go_wp2_with (go_at_call 231;refine (i.out _ β2).mono ?_;rintro r c ⟨rfl,b⟩;have r0:At c w.heap.size 0 (I 0):=Qa b ε;have j:=Fk w.heap.size 0 b;have r1:At c w.heap.size 1 (I 0):=Qa b ε;have k:=Fk w.heap.size 1 b;have r2:At c w.heap.size 2 (I 0):=Qa b ε;have l:=Fk w.heap.size 2 b;have r3:At c w.heap.size 3 (I 0):=Qa b ε;have m:=Fk w.heap.size 3 b;have y:At c w.heap.size 4 (I 0):=Qa b ε;have n:=Fk w.heap.size 4 b;have z:At c w.heap.size 5 (I 0):=Qa b ε;have o:=Fk w.heap.size 5 b;have p:w.heap.size<c.heap.size:=World.block_lt_of_cell? (w:=c) (a:=⟨w.heap.size,0,none⟩) r0;have q:w.heap.size<c.heap.size+1:=γ;have s:w.heap.size<c.heap.size+1+1:=γ;have t:w.heap.size<c.heap.size+1+1+1:=γ;have u:w.heap.size<c.heap.size+1+1+1+1:=γ;have x:w.heap.size<c.heap.size+1+1+1+1+1:=γ;have h:=Hd (Qc β2 b);clear b)
 refine bodyPost_ret (v:=.tuple #[.agg #[I v0,I e,I f,I v3,I v4,I v5],I 0]) ?_ rfl ⟨rfl, ?_⟩
 ·first | (simp [results,Tryz.results230,go_sem, *];done) | (simp [results,Tryz.results230,go_sem,Ca, *];done)
 ·with_reducible repeat' (first | exact h.out | refine Qh ?_ ?_ | refine Qb ?_ | refine Qg ?_)
  all_goals (first | (simp;done) | (simp;omega))
theorem Corners1_yes (x y k:Int) (e:Nat) (w:World) (h:triB x y k=true) (hs:Steps w) (d:Tr w e x y k) :
  Rt 231 #[.pointer (Az e)] w (.tuple #[.agg #[I (2*x+1),I (2*y+1),I (c1x x k),I (c1y y k),I (c2x x k),I (c2y y k)],I 0]):=by
 have C:=d.lt;obtain ⟨b0,b1,b2⟩:=d;have g:=Hd hs;clear hs;go_enter Tryz.func231,Tryz.ntmps231;go_wp2_with (go_at_call 118;refine (Qar _ _ _ _ h (g.out.kept β1)).mono ?_;rintro r c ⟨rfl,b⟩;have r0:At c w.heap.size 0 (I 0):=Qa b ε;have i:=Fk w.heap.size 0 b;have r1:At c w.heap.size 1 (I 0):=Qa b ε;have j:=Fk w.heap.size 1 b;have r2:At c w.heap.size 2 (I 0):=Qa b ε;have l:=Fk w.heap.size 2 b;have r3:At c w.heap.size 3 (I 0):=Qa b ε;have m:=Fk w.heap.size 3 b;have A:At c w.heap.size 4 (I 0):=Qa b ε;have n:=Fk w.heap.size 4 b;have B:At c w.heap.size 5 (I 0):=Qa b ε;have o:=Fk w.heap.size 5 b;have p:w.heap.size<c.heap.size:=World.block_lt_of_cell? (w:=c) (a:=⟨w.heap.size,0,none⟩) r0;have q:w.heap.size<c.heap.size+1:=γ;have s:w.heap.size<c.heap.size+1+1:=γ;have t:w.heap.size<c.heap.size+1+1+1:=γ;have u:w.heap.size<c.heap.size+1+1+1+1:=γ;have z:w.heap.size<c.heap.size+1+1+1+1+1:=γ;have f:=Hd (Qc β1 b);clear b)
 refine bodyPost_ret (v:=.tuple #[.agg #[I (2*x+1),I (2*y+1),I (c1x x k),I (c1y y k),I (c2x x k),I (c2y y k)],I 0]) ?_ rfl ⟨rfl, ?_⟩
 ·first | (simp [results,Tryz.results231,go_sem, *];done) | (simp [results,Tryz.results231,go_sem,Ca, *];done)
 ·with_reducible repeat' (first | exact f.out | refine Qh ?_ ?_ | refine Qb ?_ | refine Qg ?_)
  all_goals (first | (simp;done) | (simp;omega))
theorem Corners_yes (x y k:Int) (w:World) (h:triB x y k=true) (hs:Steps w) :
  Rt 209 #[.agg #[I x,I y,I k]] w (.tuple #[.agg #[I (2*x+1),I (2*y+1),I (c1x x k),I (c1y y k),I (c2x x k),I (c2y y k)],I 0]):=by
 have p:=Jf;have g:Hid (∀ (e:Nat) (W:World),Bl w W→Tr W e x y k→Rt 231 #[.pointer (Az e)] W (.tuple #[.agg #[I (2*x+1),I (2*y+1),I (c1x x k),I (c1y y k),I (c2x x k),I (c2y y k)],I 0])):=fun e W d q=>Corners1_yes x y k e W h (hs.kept d) q;clear hs;go_enter Tryz.func209,Tryz.ntmps209;go_wp2_with (first | (go_at_call 116;refine (Xd _ _ _ _).mono ?_;rintro r E ⟨rfl,o2,rfl⟩) | (go_at_call 230;refine (Gm _ _ _ _ _ _ _ _ (fun W d=>g.out _ W (Qc β3 d) (Tr.kept γ8 d))).mono ?_;rintro r c ⟨rfl,b⟩;have r0:At c (w.heap.size+1) 0 (I 0):=Qa b ε;have i:=Fk (w.heap.size+1) 0 b;have r1:At c (w.heap.size+1) 1 (I 0):=Qa b ε;have j:=Fk (w.heap.size+1) 1 b;have r2:At c (w.heap.size+1) 2 (I 0):=Qa b ε;have l:=Fk (w.heap.size+1) 2 b;have r3:At c (w.heap.size+1) 3 (I 0):=Qa b ε;have m:=Fk (w.heap.size+1) 3 b;have C:At c (w.heap.size+1) 4 (I 0):=Qa b ε;have n:=Fk (w.heap.size+1) 4 b;have D:At c (w.heap.size+1) 5 (I 0):=Qa b ε;have o:=Fk (w.heap.size+1) 5 b;have s:w.heap.size+1<c.heap.size:=World.block_lt_of_cell? (w:=c) (a:=⟨w.heap.size+1,0,none⟩) r0;have t:w.heap.size+1<c.heap.size+1:=γ;have u:w.heap.size+1<c.heap.size+1+1:=γ;have z:w.heap.size+1<c.heap.size+1+1+1:=γ;have A:w.heap.size+1<c.heap.size+1+1+1+1:=γ;have B:w.heap.size+1<c.heap.size+1+1+1+1+1:=γ;have f:=Hd (Qc β3 b);clear b))
 refine bodyPost_ret (v:=.tuple #[.agg #[I (2*x+1),I (2*y+1),I (c1x x k),I (c1y y k),I (c2x x k),I (c2y y k)],I 0]) ?_ rfl ⟨rfl, ?_⟩
 ·first | (simp [results,Tryz.results209,go_sem, *];done) | (simp [results,Tryz.results209,go_sem,Ca, *];done)
 ·with_reducible repeat' (first | exact f.out | refine Qh ?_ ?_ | refine Qb ?_ | refine Qg ?_)
  all_goals (first | (simp;done) | (simp;omega))
theorem edges_num (x y k:Int) (w:World) (h:triB x y k=true) (hs:Steps w) :
  Rt 226 #[.agg #[I x,I y,I k]] w (.agg #[I (ue0 x y k),I (ue1 x y k),I (ue2 x y k),I (ue3 x y k),I (ue4 x y k),I (ue5 x y k),I (ue6 x y k),I (ue7 x y k),I (ue8 x y k),I (ue9 x y k),I (ue10 x y k),I (ue11 x y k)]):=edges_any x y k w h hs
theorem Qbh (v0 g h v3 v4 v5 i j k v9 e f:Int) (n:Nat) (w:World) (d:∀ W:World,Bl w W→Rt 225 #[.pointer (Az n)] W (.tuple #[.agg #[I v0,I g,I h,I v3,I v4,I v5,I i,I j,I k,I v9,I e,I f],I 0])) :
  Rt 224 #[.bool true,.func (.func 225) #[] #[.pointer (Az n)]] w (.tuple #[.agg #[I v0,I g,I h,I v3,I v4,I v5,I i,I j,I k,I v9,I e,I f],I 0]):=by
 have p:=Hd d;clear d;go_enter Tryz.func224,Tryz.ntmps224;go_wp2_with (go_at_call 225;refine (p.out _ β2).mono ?_;rintro r c ⟨rfl,b⟩;have r0:At c w.heap.size 0 (I 0):=Qa b ε;have q:=Fk w.heap.size 0 b;have r1:At c w.heap.size 1 (I 0):=Qa b ε;have s:=Fk w.heap.size 1 b;have r2:At c w.heap.size 2 (I 0):=Qa b ε;have t:=Fk w.heap.size 2 b;have r3:At c w.heap.size 3 (I 0):=Qa b ε;have u:=Fk w.heap.size 3 b;have M:At c w.heap.size 4 (I 0):=Qa b ε;have x:=Fk w.heap.size 4 b;have N:At c w.heap.size 5 (I 0):=Qa b ε;have y:=Fk w.heap.size 5 b;have O:At c w.heap.size 6 (I 0):=Qa b ε;have z:=Fk w.heap.size 6 b;have P:At c w.heap.size 7 (I 0):=Qa b ε;have A:=Fk w.heap.size 7 b;have Q:At c w.heap.size 8 (I 0):=Qa b ε;have B:=Fk w.heap.size 8 b;have R:At c w.heap.size 9 (I 0):=Qa b ε;have C:=Fk w.heap.size 9 b;have D:At c w.heap.size 10 (I 0):=Qa b ε;have l:=Fk w.heap.size 10 b;have E:At c w.heap.size 11 (I 0):=Qa b ε;have m:=Fk w.heap.size 11 b;have F:w.heap.size<c.heap.size:=World.block_lt_of_cell? (w:=c) (a:=⟨w.heap.size,0,none⟩) r0;have G:w.heap.size<c.heap.size+1:=γ;have H:w.heap.size<c.heap.size+1+1:=γ;have J:w.heap.size<c.heap.size+1+1+1:=γ;have K:w.heap.size<c.heap.size+1+1+1+1:=γ;have L:w.heap.size<c.heap.size+1+1+1+1+1:=γ;have o:=Hd (Qc β2 b);clear b)
 refine bodyPost_ret (v:=.tuple #[.agg #[I v0,I g,I h,I v3,I v4,I v5,I i,I j,I k,I v9,I e,I f],I 0]) ?_ rfl ⟨rfl, ?_⟩
 ·first | (simp [results,Tryz.results224,go_sem, *];done) | (simp [results,Tryz.results224,go_sem,Ca, *];done)
 ·with_reducible repeat' (first | exact o.out | refine Qh ?_ ?_ | refine Qb ?_ | refine Qg ?_)
  all_goals (first | (simp;done) | (simp;omega))
theorem Edges1_yes (x y k:Int) (g:Nat) (w:World) (h:triB x y k=true) (hs:Steps w) (f:Tr w g x y k) :
  Rt 225 #[.pointer (Az g)] w (.tuple #[.agg #[I (ue0 x y k),I (ue1 x y k),I (ue2 x y k),I (ue3 x y k),I (ue4 x y k),I (ue5 x y k),I (ue6 x y k),I (ue7 x y k),I (ue8 x y k),I (ue9 x y k),I (ue10 x y k),I (ue11 x y k)],I 0]):=by
 have P:=f.lt;obtain ⟨b0,b1,b2⟩:=f;have j:=Hd hs;clear hs;go_enter Tryz.func225,Tryz.ntmps225;go_wp2_with (go_at_call 226;refine (edges_num _ _ _ _ h (j.out.kept β1)).mono ?_;rintro r c ⟨rfl,b⟩;have r0:At c w.heap.size 0 (I 0):=Qa b ε;have l:=Fk w.heap.size 0 b;have r1:At c w.heap.size 1 (I 0):=Qa b ε;have m:=Fk w.heap.size 1 b;have r2:At c w.heap.size 2 (I 0):=Qa b ε;have n:=Fk w.heap.size 2 b;have r3:At c w.heap.size 3 (I 0):=Qa b ε;have o:=Fk w.heap.size 3 b;have J:At c w.heap.size 4 (I 0):=Qa b ε;have p:=Fk w.heap.size 4 b;have K:At c w.heap.size 5 (I 0):=Qa b ε;have q:=Fk w.heap.size 5 b;have L:At c w.heap.size 6 (I 0):=Qa b ε;have s:=Fk w.heap.size 6 b;have M:At c w.heap.size 7 (I 0):=Qa b ε;have t:=Fk w.heap.size 7 b;have N:At c w.heap.size 8 (I 0):=Qa b ε;have u:=Fk w.heap.size 8 b;have O:At c w.heap.size 9 (I 0):=Qa b ε;have z:=Fk w.heap.size 9 b;have A:At c w.heap.size 10 (I 0):=Qa b ε;have d:=Fk w.heap.size 10 b;have B:At c w.heap.size 11 (I 0):=Qa b ε;have e:=Fk w.heap.size 11 b;have C:w.heap.size<c.heap.size:=World.block_lt_of_cell? (w:=c) (a:=⟨w.heap.size,0,none⟩) r0;have D:w.heap.size<c.heap.size+1:=γ;have E:w.heap.size<c.heap.size+1+1:=γ;have F:w.heap.size<c.heap.size+1+1+1:=γ;have G:w.heap.size<c.heap.size+1+1+1+1:=γ;have H:w.heap.size<c.heap.size+1+1+1+1+1:=γ;have i:=Hd (Qc β1 b);clear b)
 refine bodyPost_ret (v:=.tuple #[.agg #[I (ue0 x y k),I (ue1 x y k),I (ue2 x y k),I (ue3 x y k),I (ue4 x y k),I (ue5 x y k),I (ue6 x y k),I (ue7 x y k),I (ue8 x y k),I (ue9 x y k),I (ue10 x y k),I (ue11 x y k)],I 0]) ?_ rfl ⟨rfl, ?_⟩
 ·first | (simp [results,Tryz.results225,go_sem, *];done) | (simp [results,Tryz.results225,go_sem,Ca, *];done)
 ·with_reducible repeat' (first | exact i.out | refine Qh ?_ ?_ | refine Qb ?_ | refine Qg ?_)
  all_goals (first | (simp;done) | (simp;omega))
theorem Edges_yes (x y k:Int) (w:World) (h:triB x y k=true) (hs:Steps w) :
  Rt 199 #[.agg #[I x,I y,I k]] w (.tuple #[.agg #[I (ue0 x y k),I (ue1 x y k),I (ue2 x y k),I (ue3 x y k),I (ue4 x y k),I (ue5 x y k),I (ue6 x y k),I (ue7 x y k),I (ue8 x y k),I (ue9 x y k),I (ue10 x y k),I (ue11 x y k)],I 0]):=by
 have A:=Jf;have j:Hid (∀ (e:Nat) (W:World),Bl w W→Tr W e x y k→Rt 225 #[.pointer (Az e)] W (.tuple #[.agg #[I (ue0 x y k),I (ue1 x y k),I (ue2 x y k),I (ue3 x y k),I (ue4 x y k),I (ue5 x y k),I (ue6 x y k),I (ue7 x y k),I (ue8 x y k),I (ue9 x y k),I (ue10 x y k),I (ue11 x y k)],I 0])):=fun e W d B=>Edges1_yes x y k e W h (hs.kept d) B;clear hs;go_enter Tryz.func199,Tryz.ntmps199;go_wp2_with (first | (go_at_call 116;refine (Xd _ _ _ _).mono ?_;rintro r R ⟨rfl,o2,rfl⟩) | (go_at_call 224;refine (Qbh _ _ _ _ _ _ _ _ _ _ _ _ _ _ (fun W d=>j.out _ W (Qc β3 d) (Tr.kept γ8 d))).mono ?_;rintro r c ⟨rfl,b⟩;have r0:At c (w.heap.size+1) 0 (I 0):=Qa b ε;have l:=Fk (w.heap.size+1) 0 b;have r1:At c (w.heap.size+1) 1 (I 0):=Qa b ε;have m:=Fk (w.heap.size+1) 1 b;have r2:At c (w.heap.size+1) 2 (I 0):=Qa b ε;have n:=Fk (w.heap.size+1) 2 b;have r3:At c (w.heap.size+1) 3 (I 0):=Qa b ε;have o:=Fk (w.heap.size+1) 3 b;have L:At c (w.heap.size+1) 4 (I 0):=Qa b ε;have p:=Fk (w.heap.size+1) 4 b;have M:At c (w.heap.size+1) 5 (I 0):=Qa b ε;have q:=Fk (w.heap.size+1) 5 b;have N:At c (w.heap.size+1) 6 (I 0):=Qa b ε;have s:=Fk (w.heap.size+1) 6 b;have O:At c (w.heap.size+1) 7 (I 0):=Qa b ε;have t:=Fk (w.heap.size+1) 7 b;have P:At c (w.heap.size+1) 8 (I 0):=Qa b ε;have u:=Fk (w.heap.size+1) 8 b;have Q:At c (w.heap.size+1) 9 (I 0):=Qa b ε;have z:=Fk (w.heap.size+1) 9 b;have C:At c (w.heap.size+1) 10 (I 0):=Qa b ε;have f:=Fk (w.heap.size+1) 10 b;have D:At c (w.heap.size+1) 11 (I 0):=Qa b ε;have g:=Fk (w.heap.size+1) 11 b;have E:w.heap.size+1<c.heap.size:=World.block_lt_of_cell? (w:=c) (a:=⟨w.heap.size+1,0,none⟩) r0;have F:w.heap.size+1<c.heap.size+1:=γ;have G:w.heap.size+1<c.heap.size+1+1:=γ;have H:w.heap.size+1<c.heap.size+1+1+1:=γ;have J:w.heap.size+1<c.heap.size+1+1+1+1:=γ;have K:w.heap.size+1<c.heap.size+1+1+1+1+1:=γ;have i:=Hd (Qc β3 b);clear b))
 refine bodyPost_ret (v:=.tuple #[.agg #[I (ue0 x y k),I (ue1 x y k),I (ue2 x y k),I (ue3 x y k),I (ue4 x y k),I (ue5 x y k),I (ue6 x y k),I (ue7 x y k),I (ue8 x y k),I (ue9 x y k),I (ue10 x y k),I (ue11 x y k)],I 0]) ?_ rfl ⟨rfl, ?_⟩
 ·first | (simp [results,Tryz.results199,go_sem, *];done) | (simp [results,Tryz.results199,go_sem,Ca, *];done)
 ·with_reducible repeat' (first | exact i.out | refine Qh ?_ ?_ | refine Qb ?_ | refine Qg ?_)
  all_goals (first | (simp;done) | (simp;omega))
structure Kin (W:World) where
 w:World
 h:Bl W w
theorem Kin.cells (W:World):∀ (n:Kin W) (b o:Nat),b<W.heap.size→n.w.cell? ⟨b,o,none⟩=W.cell? ⟨b,o,none⟩:=fun n b o a=>n.h.cell (p:=⟨b,o,none⟩) a
theorem wp_region_kin {e:Nat} {l:List Oper} (d:P.follows .mixedOrders=true) (c:Region.lexB .any l.toArray=true)
  (h:wpQuiet P l.toArray (fun w'=>∃ n:Kin W,w'=n.w) (fun b=>∀ w',(∃ n:Kin W,w'=n.w)→Q .normal b w') l a):(Code.region e l.toArray true).wp P Q a W :=
 wp_region_quiet (C:=fun w'=>∃ n:Kin W,w'=n.w) d c ⟨⟨W.drew,Qg (Qe _)⟩,rfl⟩ (by simpa using h)
theorem Qf {f:FuncId} {args:Array Value} {n:Kin W}
  (h:Calls P f args n.w fun e w'=>e=.returned v∧Below n.w.heap.size n.w w'):Calls P f args n.w fun e a=>e=.returned v∧∃ m:Kin W,a=m.w :=
 h.mono fun _ w' ⟨c,b⟩=>⟨c,⟨w',Qc n.h b⟩,rfl⟩
theorem Qi {c:Code} (h:∀ W,W=w→c.wp P Q a W):c.wp P Q a w:=h w rfl
theorem wk {id:Nat} {l:List Oper} (h:wpQuiet P l.toArray (fun w'=>∃ n:Kin W,w'=n.w) (fun a'=>∀ w',(∃ n:Kin W,w'=n.w)→Q .normal a' w') l a) (hm:P.follows .mixedOrders=true:=by kernel_rfl) (hB:Region.lexB .any l.toArray=true:=by kernel_rfl):(Code.region id l.toArray true).wp P Q a W:=wp_region_kin hm hB h
theorem kq1 {ops:Array Oper} {C:World→Prop} {R:Act→World→Prop} (h:∀ w',Below W.heap.size W w'→R a w'):wpQuiet P ops C (fun a'=>∀ w',(∃ n:Kin W,w'=n.w)→R a' w') [] a:=wpQuiet_nil (fun _ ⟨n,e⟩=>h _ (e ▸ n.h))
theorem kcn (W:World):(∀ (n:Kin W) (b o:Nat),b<W.heap.size→n.w.cell? ⟨b,o,none⟩=W.cell? ⟨b,o,none⟩)∧Nonempty (Kin W):=⟨Kin.cells W,⟨⟨W,Qe _⟩⟩⟩
section
variable {P:Program} {ops:Array Oper} {Q:Exit→Act→World→Prop} {S:World→Prop} {md:Region.Mode} {fuel:Nat} {listed:Array Bool} {a:Act} {w:World} {oi:Oper}
theorem Tk (i:Nat) (v:Value) {Z:Prop} (k:Z) (hi:ops[i]?=some oi:=by rfl) (hs:Region.noSelect ops=true:=by kernel_rfl) (hf:Region.free md ops listed i=true:=by kernel_rfl) (hr:(Region.ready md ops listed).contains i=true:=by kernel_rfl) (hQ:∀ c a w,Q (.panic c) (a.put oi.dst v) w→Q (.panic c) a w:=by exact fun _ _ _ h=>h) (hy:YieldsIf P ops S oi v a:=by exact Or.inl ⟨by rfl,by (intro w' hSw;(try dsimp only at hSw);go_simp)⟩) (hS:S w:=by assumption) (h:Z→wpAnyH P md ops Q S fuel (listed.setIfInBounds i true) (a.put oi.dst v) w:=by (intro z;(try simp only [Ap]);exact z)):wpAnyH P md ops Q S (fuel+1) listed a w:=wpAnyH_take hi hs hf hr hQ hy hS (h k)
theorem Tkd (i:Nat) (v:Value) {Z:Prop} (k:Z) (hi:ops[i]?=some oi:=by rfl) (hs:Region.noSelect ops=true:=by kernel_rfl) (hf:Region.free md ops listed i=true:=by kernel_rfl) (hr:(Region.ready md ops listed).contains i=true:=by kernel_rfl) (hQ:∀ c a w,Q (.panic c) (a.put oi.dst v) w→Q (.panic c) a w:=by exact fun _ _ _ h=>h) (hy:YieldsIf P ops S oi v a:=by exact Or.inl ⟨by rfl,by (intro w' hSw;(try dsimp only at hSw);go_simp <;> decide)⟩) (hS:S w:=by assumption) (h:Z→wpAnyH P md ops Q S fuel (listed.setIfInBounds i true) (a.put oi.dst v) w:=by (intro z;(try simp only [Ap]);exact z)):wpAnyH P md ops Q S (fuel+1) listed a w:=wpAnyH_take hi hs hf hr hQ hy hS (h k)
theorem Rd (i:Nat) (ho:ops[i]?=some o) (h:∀ K':Act→World→Prop,Shut (∀ a w,S w→(S w→wpAnyH P md ops Q S fuel (listed.setIfInBounds i true) a w)→K' a w)→if Region.wanted o (yielded ops a.tmps)=true then Oper.wp P o a w K' Q else K' (a.put o.dst undef) w) (hr:Region.ready md ops listed=[i]:=by kernel_rfl):wpAnyH P md ops Q S (fuel+1) listed a w:=wpAnyH_ready hr (by simp) (AllReadyH.cons ho h AllReadyH.nil)
end
theorem Tv {ops:Array Oper} {S:World→Prop} {md:Region.Mode} {fuel:Nat} {listed:Array Bool} {oi:Oper} (i:Nat) {Z:Prop} (k:Z) (hi:ops[i]?=some oi:=by rfl) (hs:Region.noSelect ops=true:=by kernel_rfl) (hf:Region.free md ops listed i=true:=by kernel_rfl) (hr:(Region.ready md ops listed).contains i=true:=by kernel_rfl) (hQ:∀ c a w,Q (.panic c) (a.put oi.dst v) w→Q (.panic c) a w:=by exact fun _ _ _ h=>h) (hy:YieldsIf P ops S oi v a:=by (refine Or.inl ⟨by rfl, ?_⟩;intro w hSw;(try dsimp only at hSw);go_simp;(try with_reducible rfl))) (hS:S w:=by assumption) (h:Z→wpAnyH P md ops Q S fuel (listed.setIfInBounds i true) (a.put oi.dst v) w:=by (intro z;(try simp only [Ap]);exact z)):wpAnyH P md ops Q S (fuel+1) listed a w:=wpAnyH_take hi hs hf hr hQ hy hS (h k)
theorem Vq (x y k:Int) (w:World) (h:triB x y k=true) (hs:Steps w) :
  Rt 138 #[.agg #[I x,I y,I k]] w (.agg #[I (ue0 x y k),I (ue1 x y k),I (ue2 x y k),I (ue3 x y k),I (ue4 x y k),I (ue5 x y k),I (ue6 x y k),I (ue7 x y k),I (ue8 x y k),I (ue9 x y k),I (ue10 x y k),I (ue11 x y k)]):=by
 have i:=Hd hs;clear hs;go_enter Tryz.func138,Tryz.ntmps138;go_wp2_with (go_at_call 199;refine (Edges_yes _ _ _ _ h (i.out.kept β2)).mono ?_;rintro e c ⟨rfl,b⟩;have r0:At c (w.heap.size+1) 0 (I 0):=Qa b ε;have j:=Fk (w.heap.size+1) 0 b;have r1:At c (w.heap.size+1) 1 (I 0):=Qa b ε;have l:=Fk (w.heap.size+1) 1 b;have r2:At c (w.heap.size+1) 2 (I 0):=Qa b ε;have m:=Fk (w.heap.size+1) 2 b;have r3:At c (w.heap.size+1) 3 (I 0):=Qa b ε;have n:=Fk (w.heap.size+1) 3 b;have E:At c (w.heap.size+1) 4 (I 0):=Qa b ε;have o:=Fk (w.heap.size+1) 4 b;have F:At c (w.heap.size+1) 5 (I 0):=Qa b ε;have p:=Fk (w.heap.size+1) 5 b;have G:At c (w.heap.size+1) 6 (I 0):=Qa b ε;have q:=Fk (w.heap.size+1) 6 b;have H:At c (w.heap.size+1) 7 (I 0):=Qa b ε;have r:=Fk (w.heap.size+1) 7 b;have J:At c (w.heap.size+1) 8 (I 0):=Qa b ε;have s:=Fk (w.heap.size+1) 8 b;have K:At c (w.heap.size+1) 9 (I 0):=Qa b ε;have t:=Fk (w.heap.size+1) 9 b;have u:At c (w.heap.size+1) 10 (I 0):=Qa b ε;have d:=Fk (w.heap.size+1) 10 b;have z:At c (w.heap.size+1) 11 (I 0):=Qa b ε;have f:=Fk (w.heap.size+1) 11 b;have A:w.heap.size+1<c.heap.size:=World.block_lt_of_cell? (w:=c) (a:=⟨w.heap.size+1,0,none⟩) r0;have B:w.heap.size+1<c.heap.size+1:=γ;have C:w.heap.size+1<c.heap.size+1+1:=γ;have D:w.heap.size+1<c.heap.size+1+1+1:=γ;have g:=Hd (Qc β2 b);clear b)
 refine bodyPost_ret (v:=.agg #[I (ue0 x y k),I (ue1 x y k),I (ue2 x y k),I (ue3 x y k),I (ue4 x y k),I (ue5 x y k),I (ue6 x y k),I (ue7 x y k),I (ue8 x y k),I (ue9 x y k),I (ue10 x y k),I (ue11 x y k)]) ?_ rfl ⟨rfl, ?_⟩
 ·first | (simp [results,Tryz.results138,go_sem, *];done) | (simp [results,Tryz.results138,go_sem,Ca, *];done)
 ·with_reducible repeat' (first | exact g.out | refine Qh ?_ ?_ | refine Qb ?_ | refine Qg ?_)
  all_goals (first | omega | (simp;done) | (simp;omega))
theorem mul_one_any (n:Nat) (h:n≤1000000) (w:World):Cl 135 #[.int .u64 1,.int .u64 (n:Int)] w fun e w'=>e=.returned (.tuple #[.int .u64 0,.int .u64 (n:Int)])∧w'=w:=by
 have:=Tryz.bits_Mul 1 n γ γ w;have e1:1*n / 18446744073709551616=0:=γ;have e2:1*n % 18446744073709551616=n:=γ;rw [e1,e2] at this;exact this
def rp (z:Int) (m n:Nat):List Value:=List.replicate m (I z) ++ List.replicate (n - m) (I 0)
theorem rp_len (z:Int) (h:m≤n):(rp z m n).length=n:=by simp [rp];omega
theorem rp_splice (z:Int) (_h:m+c≤n):splice (rp z m n) m (List.replicate c (I z))=rp z (m+c) n:=by
 unfold splice rp
 have e1:List.take m (List.replicate m (I z) ++ List.replicate (n - m) (I 0))=List.replicate m (I z):=by
  rw [List.take_append_of_le_length ξ];simp
 have e2:List.drop (m+(List.replicate c (I z)).length) (List.replicate m (I z) ++ List.replicate (n - m) (I 0))=List.replicate (n - (m+c)) (I 0):=by
  rw [List.drop_append,List.drop_eq_nil_of_le ξ,List.nil_append,List.drop_replicate];congr 1
  simp;omega
 rw [e1,e2,← List.append_assoc,List.replicate_append_replicate]
theorem rp_cell {g:Nat} {z:Int} (h:w.heap[g]?=some (.cells (rp z m n).toArray 3 (0,0))) (e:c≤m):∀ j v,(List.replicate c (I z))[j]?=some v→w.cell? ((⟨g,0,none⟩:Addr).add j)=some v:=by
 intro j v hv
 have a:j<c:=by
  rcases Nat.lt_or_ge j c with a | a
  ·exact a
  ·rw [List.getElem?_eq_none (by simpa using a)] at hv
   cases hv
 have b:v=I z:=by
  rw [List.getElem?_eq_getElem (by simpa using a)] at hv;simpa using hv.symm
 subst b;have d:(⟨g,0,none⟩:Addr).add j=⟨g,j,none⟩:=by unfold Addr.add;split <;> simp_all
 rw [d];simp [World.cell?,h,rp];rw [List.getElem?_append_left ω];rw [List.getElem?_replicate,if_pos γ]
theorem rep_one (c:Nat) (z:Int):∀ v∈List.replicate c (I z),v.oneCell'=true:=by
 intro v hv;rw [List.eq_of_mem_replicate hv];rfl
theorem made_row {g:Nat} (f:w.ownsRow base 3 1 (.slice (Az g) n n) n (madeCells #[I 0] n).toList):w.heap[g]?=some (.cells (List.replicate n (I 0)).toArray 3 (0,0)):=by
 rcases f.2 with ⟨e,_⟩ | ⟨h,c,a,e,h2,h3,h4,h5,h6,b⟩
 ·cases e
 ·simp only [Value.slice.injEq,Option.some.injEq,Addr.mk.injEq,and_true,true_and] at e;obtain ⟨rfl,rfl⟩:=e
  have d:a.toList=List.replicate n (I 0):=by
   rw [Nat.mul_one,List.take_of_length_le (by rw [Array.length_toList];omega)] at b;rw [b];apply List.ext_getElem
   ·simp [madeCells]
   ·intro i h1 h2;simp [madeCells,Nat.mod_one]
  rw [h3,← d]
theorem repeat_any (z:Int) (D n:Nat) (w:World) (hn:n≤1000000) (Q:At w D 0 (I z)) :
  Cl 86 #[.slice (Az D) 1 1,I (n:Int)] w fun e w'=>e=.returned (.slice (Az w.heap.size) n n)∧w'.heap[w.heap.size]?=some (.cells (rp z n n).toArray 3 (0,0))∧Bl w w':=by
 obtain ⟨i3,o,B,p,C⟩:=info_parts inf3;have f:=H4 o B p C;have A:(Tryz.prog.info? 3).map (fun i=>i.size)=some 1:=by rw [o];simp [p]
 have r:=Hd A;clear o B p C A;have n0:(0:Int)≤(n:Int):=γ;have n1:(n:Int)≤1000000:=γ;go_enter Tryz.func86,Tryz.ntmps86
 go_wp2_with (first
  | (go_at_call 135;refine (mul_one_any n hn _).mono ?_;rintro e w' ⟨rfl,T⟩;have M:=T.symm;clear T;subst M)
  | (at_make;refine wpList_make_full _ rfl (.tmp 29) (.tmp 29) 22 rfl w.heap.size 3 i3 (I 0) 1 Tryz.underlying22 f.out.1 f.out.2.1 f.out.2.2.1 .i64 .i64 _ _ n rfl rfl rfl rfl ?b2 ?b3 ?b4 ?mk))
 case b2 =>
  rw [f.out.2.2.2];omega
 case b3 =>
  unfold maxLen;omega
 case b4=>exact Nr _
 case mk =>
  intro F R hg;have b:Bl w F:=(Below.refl _ _).grown hg (Nr _) (fun k h=>by cases h);have l:F.heap[w.heap.size]?=some (.cells (rp z 0 n).toArray 3 (0,0)):=by simpa [rp] using made_row R
  clear R hg;have G:=H2 b l;have s:At F D 0 (I z):=Qa b Q;have q:=Hd s;clear b l Q s;obtain ⟨c,a⟩:∃ c,c=Nat.min 1 n:=⟨_,rfl⟩;have K:c≤1:=by rw [a];exact Nat.min_le_left _ _
  have t:c≤n:=by rw [a];exact Nat.min_le_right _ _
  have u:n=0∨c=1:=by
   rcases Nat.eq_zero_or_pos n with h | h
   ·exact Or.inl h
   ·exact Or.inr (by rw [a];exact Nat.min_eq_left h)
  have J:Hid (0<(List.replicate c (I z)).length→(some (⟨w.heap.size,0,none⟩:Addr))=Az w.heap.size∧∃ ad,(some (⟨D,0,none⟩:Addr))=some ad∧∀ j v,(List.replicate c (I z))[j]?=some v→F.cell? (ad.add j)=some v):=fun _=>⟨rfl,_,rfl,fun j v hv=>by
   have x:j<c:=by
    rcases Nat.lt_or_ge j c with x | x
    ·exact x
    ·rw [List.getElem?_eq_none (by simpa using x)] at hv
     cases hv
   obtain rfl:j=0:=γ;rw [List.getElem?_replicate,if_pos x] at hv;rw [← hv];simpa [Addr.add] using q.out⟩
  go_wp2_with (refine wpList_copy_splice Ω (.tmp 31) (.tmp 32) 22 22 Ω 3 Tryz.underlying22 r.out (Az w.heap.size) (Az D) n n 1 1 Ω Ω w.heap.size 0 (rp z 0 n) 3 G.out.2 (List.replicate c (I z)) (by rw [List.length_replicate];exact a) J.out (by rw [List.length_replicate,rp_len z (Nat.zero_le n)];omega) (rep_one c z) w.heap.size w G.out.1 (Nr _) ?_;intro N d g)
  have O:Hid (N.heap[w.heap.size]?=some (.cells (rp z c n).toArray 3 (0,0))∧Bl w N):=by
   have:=d.out;rw [rp_splice z γ,Nat.zero_add] at this;exact ⟨this,g⟩
  have H:=Hd a;clear d g G q a;go_loopg [8] n (fun W s8 U=>∃ m:Nat,m≤n∧n - m≤W∧s8=I (m:Int)∧(n=0∨1≤m)∧U.heap[w.heap.size]?=some (.cells (rp z m n).toArray 3 (0,0))∧Bl w U)
  case atStart=>exact ⟨c,t,γ,by rw [H.out],u.imp id (fun h=>by omega),O.out⟩
  case round =>
   clear t u K O;obtain ⟨m,hm,X,rfl,a2,hr,P⟩:=hrel;have E:=H2 hr P;clear hr P;by_cases h1:m<n
   ·have i1:(m:Int)<(n:Int):=γ;have i0:(0:Int)≤(m:Int):=γ;have i2:(m:Int)≤(n:Int):=γ;obtain ⟨k,y⟩:∃ k,k=Nat.min m (n - m):=⟨_,rfl⟩;have L:k≤m:=by rw [y];exact Nat.min_le_left _ _
    have Y:k≤n - m:=by rw [y];exact Nat.min_le_right _ _
    have Z:1≤k:=by rw [y];exact Nat.le_min.2 ⟨γ,γ⟩
    have a6:¬ n=m:=γ;have V:=Hd y;clear y;go_wp2;go_region_held3 (fun _=>True) (trivial) (((refine step_copy_splice Ω (.tmp 41) (.tmp 44) 22 22 Ω 3 Tryz.underlying22 r.out (Ad w.heap.size m) (Az w.heap.size) (n - m) (n - m) m n Ω Ω w.heap.size m (rp z m n) 3 E.out.1 (List.replicate k (I z)) (by rw [List.length_replicate];exact V.out) (fun _=>⟨rfl,_,rfl,rp_cell E.out.1 L⟩) (by rw [List.length_replicate,rp_len z hm];omega) (rep_one k z) w.heap.size w (Qg E.out.2) (Nr _) ?_;intro N d g)))
    all_goals
     go_wp2;go_roundg (n - (m+k))
     case measure=>omega
     case rel =>
      refine ⟨m+k,γ,γ,(congrArg _ (by first | omega | (rw [IntKind.wrap_i64];omega))),Or.inr γ, ?_,g⟩;have:=d.out;rw [rp_splice z γ] at this;exact this
   ·have i1:¬ (m:Int)<(n:Int):=γ;obtain rfl:m=n:=γ;go_wp2;go_ret;exact ⟨rfl,E.out⟩
section
variable {P:Program} {ops:Array Oper} {Q:Exit→Act→World→Prop} {S:World→Prop} {late:Nat→Bool}
def Lt (P:Program) (ops:Array Oper) (Q:Exit→Act→World→Prop) (S:World→Prop) (late:Nat→Bool):Nat→Array Bool→Act→World→Prop
 | 0,L,a,w=>Region.ready .any ops L=[]∧Q .normal a w
 | n+1,L,a,w=>(Region.ready .any ops L=[]→Q .normal a w)∧∀ i,i∈Region.ready .any ops L→wpOp P ops Q i (fun a' w'=>(late i=false→S w')∧Lt P ops Q S late n (L.setIfInBounds i true) a' w') a w
theorem Lt.any:∀ (n:Nat) (L:Array Bool) (a:Act) (w:World),Lt P ops Q S late n L a w→wpAny P .any ops Q n L a w
 | 0,_,_,_,h=>h
 | n+1,L,_,_,h=>⟨h.1,fun i hi=>wpOp_mono (fun b w' k=>Lt.any n (L.setIfInBounds i true) b w' k.2) (h.2 i hi)⟩
def Clo (ops:Array Oper) (L:Array Bool):Prop := ∀ j o,ops[j]?=some o→L.getD j false=true→∀ e∈o.after,Region.binds .any e=true→L.getD e.on false=true
def cloB (ops:Array Oper) (L:Array Bool):Bool:=(List.range ops.size).all fun j => !(L.getD j false) || match ops[j]? with | some o=>o.after.toList.all fun e => !(Region.binds .any e) || L.getD e.on false | none=>true
theorem clo_of (h:cloB ops L=true):Clo ops L:=fun j o b f e d c=>by
 have a:j<ops.size:=by
  rcases Nat.lt_or_ge j ops.size with k | k
  ·exact k
  ·rw [Array.getElem?_eq_none k] at b
   cases b
 have h1:=List.all_eq_true.1 h j (List.mem_range.2 a);rw [f,b] at h1;simp only [Bool.not_true,Bool.false_or] at h1;have h2:=List.all_eq_true.1 h1 e (by simpa using d);rw [c] at h2;simpa using h2
def Wt (ops:Array Oper) (i:Nat):Nat→Nat→Prop
 | 0,_=>False
 | n+1,j=>∃ o,ops[j]?=some o∧∃ e,e∈o.after∧Region.binds .any e=true∧(e.on=i∨Wt ops i n e.on)
def wtB (ops:Array Oper) (i:Nat):Nat→Nat→Bool
 | 0,_=>false
 | n+1,j=>match ops[j]? with | some o=>o.after.toList.any fun e=>Region.binds .any e && (e.on == i || wtB ops i n e.on) | none=>false
theorem wt_of:∀ (n j:Nat),wtB ops i n j=true→Wt ops i n j
 | 0,_,h=>by cases h
 | n+1,j,h=>by
  unfold wtB at h
  cases ho:ops[j]? with
  | none=>rw [ho] at h;cases h
  | some o =>
   rw [ho] at h;obtain ⟨e,a,h2⟩:=List.any_eq_true.1 h;rw [Bool.and_eq_true,Bool.or_eq_true] at h2;refine ⟨o,ho,e,by simpa using a,h2.1, ?_⟩;rcases h2.2 with h3 | h3
   ·exact Or.inl (by simpa using h3)
   ·exact Or.inr (wt_of n e.on h3)
theorem wt_came (d:Clo ops L):∀ (n j:Nat),Wt ops i n j→(∀ o,ops[j]?=some o→∀ e∈o.after,Region.binds .any e=true→L.getD e.on false=true)→L.getD i false=true
 | 0,_,h,_=>h.elim
 | n+1,j,⟨o,ho,e,he,hb,h⟩,hj=>by
  have h1:=hj o ho e he hb;rcases h with h | h
  ·rw [h] at h1;exact h1
  ·exact wt_came d n e.on h (fun o2 c e2 b a=>d e.on o2 c h1 e2 b a)
def Wts (ops:Array Oper) (late:Nat→Bool) (i:Nat):Prop := ∀ j o,ops[j]?=some o→late j=true→Wt ops i 8 j
def wtsB (ops:Array Oper) (late:Nat→Bool) (i:Nat):Bool:=(List.range ops.size).all fun j => !(late j) || wtB ops i 8 j
theorem wts_of (h:wtsB ops late i=true):Wts ops late i:=fun j o b c=>by
 have a:j<ops.size:=by
  rcases Nat.lt_or_ge j ops.size with k | k
  ·exact k
  ·rw [Array.getElem?_eq_none k] at b
   cases b
 have h1:=List.all_eq_true.1 h j (List.mem_range.2 a);rw [c] at h1;exact wt_of 8 j (by simpa using h1)
theorem getD_apart (h:L.getD i true=false):L.getD i false=false:=by
 rcases Nat.lt_or_ge i L.size with k | k
 ·simp [k] at h ⊢;exact h
 ·simp [Array.getElem?_eq_none k] at h
theorem clo_set (h:Clo ops L) {j:Nat} (i:j∈Region.ready .any ops L):Clo ops (L.setIfInBounds j true):=fun k o b g e f d=>by
 obtain ⟨_,l,c,a⟩:=mem_ready.1 i;refine getD_set_true ?_;by_cases e1:j=k
 ·subst e1;rw [c] at b
  cases b;exact a e f d
 ·rw [getD_set_ne false e1] at g;exact h k o b g e f d
theorem Lt.first {h:Oper} (hi:ops[i]?=some h) (r:Region.noSelect ops=true) (F:∀ c a w,Q (.panic c) (a.put h.dst v) w→Q (.panic c) a w) (M:Wts ops late i) (K:late i=false) :
  ∀ (n:Nat) (L:Array Bool) (a:Act) (w:World),Clo ops L→(∀ j g,ops[j]?=some g→j≠i→L.getD j true=false→(∀ e∈g.after,Region.binds .any e=true→e.on≠i)→h.apart ops g=true) →
   i∈Region.ready .any ops L→YieldsIf P ops S h v a→S w→Lt P ops Q S late n (L.setIfInBounds i true) (a.put h.dst v) w→Lt P ops Q S late (n+1) L a w:=by
 intro n;induction n with
 | zero =>
  intro L a w _ _ hr y l H;refine ⟨fun h0=>absurd hr (by rw [h0];simp),fun j o=>?_⟩;by_cases e:j=i
  ·subst e;exact y.wpOp hi l ⟨fun _=>l,H⟩
  ·have h1:=ready_mono o e;rw [H.1] at h1
   cases h1
 | succ n ih =>
  intro L a w C D hr y l H;refine ⟨fun h0=>absurd hr (by rw [h0];simp),fun j o=>?_⟩;by_cases e:j=i
  ·subst e;exact y.wpOp hi l ⟨fun _=>l,H⟩
  ·obtain ⟨t,g,d,f⟩:=mem_ready.1 o;have m:=getD_apart (mem_ready.1 hr).1
   have A:∀ x∈g.after,Region.binds .any x=true→x.on≠i:=fun x N G B=>by
    have:=f x N G;rw [B,m] at this
    cases this
   have p:late j=false:=by
    cases hl:late j with
    | false=>rfl
    | true =>
     have:=wt_came C 8 j (M j g d hl) (fun o2 s=>by rw [d] at s;cases s;exact f);rw [m] at this
     cases this
   have h2:=wpOp_putIf (S:=S) d (D j g d e t A) (fun cs b=>Region.noSelect_spec r i h cs b hi) (fun cs b=>Region.noSelect_spec r j g cs b d) F y (H.2 j (ready_mono o e));refine wpOp_mono (fun E w' h3=>⟨fun _=>h3.2.1 p,ih (L.setIfInBounds j true) E w' (clo_set C o) (fun k ok J z u q=>D k ok J z ?_ q) (ready_mono hr (Ne.symm e)) h3.1 (h3.2.1 p) ?_⟩) h2
   ·by_cases ejk:j=k
    ·subst ejk;exact t
    ·rwa [getD_set_ne true ejk] at u
   ·rw [Array.setIfInBounds_comm _ _ e];exact h3.2.2
theorem Lt.take {b:Oper} (hi:ops[i]?=some b) (e:Region.noSelect ops=true) (j:cloB ops L=true) (l:wtsB ops late i=true) (d:late i=false)
  (k:Region.free .any ops L i=true) (hr:(Region.ready .any ops L).contains i=true) (f:∀ c a w,Q (.panic c) (a.put b.dst v) w→Q (.panic c) a w) (m:YieldsIf P ops S b v a) (g:S w)
  (h:Lt P ops Q S late n (L.setIfInBounds i true) (a.put b.dst v) w):Lt P ops Q S late (n+1) L a w :=
 Lt.first hi e f (wts_of l) d n L a w (clo_of j) (Region.free_spec hi k) (by simpa using hr) m g h
theorem Lt.one (hr:Region.ready .any ops L=[i]) (hi:ops[i]?=some o) (hg:o.guard=none)
  (h:Oper.wp P o a w (fun c w'=>(late i=false→S w')∧Lt P ops Q S late n (L.setIfInBounds i true) c w') Q):Lt P ops Q S late (n+1) L a w:=by
 refine ⟨fun h0=>(by rw [hr] at h0;cases h0),fun j b=>?_⟩;rw [hr] at b;obtain rfl:j=i:=by simpa using b
 unfold wpOp;simp only [hi];rw [if_pos (by simp [Region.wanted,hg])];exact Or.inl h
theorem Lt.done (hr:Region.ready .any ops L=[]) (h:Q .normal a w):Lt P ops Q S late n L a w:=by
 cases n with
 | zero=>exact ⟨hr,h⟩
 | succ n=>exact ⟨fun _=>h,fun i hi=>(by rw [hr] at hi;cases hi)⟩
theorem Jz (b:P.follows .mixedOrders=true) (h:Lt P ops Q S late ops.size (Array.replicate ops.size false) a w.drew):(Code.region c ops true).wp P Q a w :=
 wp_region_any b (Lt.any _ _ _ _ h)
theorem Qag {K:Act→World→Prop} {R:Ending→World→Prop} (f:FuncId) (args:Array Value) (b:(execOp a.eval o).run P w=.ok (.enter f args) w) (c:Calls P f args w R)
  (h:∀ e w',R e w'→∃ v,e=.returned v∧K (a.put o.dst v) w'):Oper.wp P o a w K Q:=by
 unfold Oper.wp;rw [b,Oper.upon_enter];refine c.mono fun e w' d=>?_;obtain ⟨v,rfl,g⟩:=h e w' d;exact g
theorem Zw {w':World} {K:Act→World→Prop} (b:(execOp a.eval o).run P w=.ok .skip w') (h:K (a.put o.dst undef) w'):Oper.wp P o a w K Q:=by
 unfold Oper.wp;rw [b];exact h
end
section
variable {P:Program} {ops:Array Oper} {Q:Exit→Act→World→Prop} {S:World→Prop} {late:Nat→Bool} {n:Nat} {L:Array Bool} {a:Act} {w:World} {oi:Oper}
theorem Lk (i:Nat) (v:Value) (hS:S w) {Z:Prop} (k:Z) (hi:ops[i]?=some oi:=by rfl) (hns:Region.noSelect ops=true:=by kernel_rfl) (hc:cloB ops L=true:=by kernel_rfl) (hw:wtsB ops late i=true:=by kernel_rfl) (hli:late i=false:=by rfl) (hf:Region.free .any ops L i=true:=by kernel_rfl) (hr:(Region.ready .any ops L).contains i=true:=by kernel_rfl) (hQ:∀ c a w,Q (.panic c) (a.put oi.dst v) w→Q (.panic c) a w:=by exact fun _ _ _ h=>h) (hy:YieldsIf P ops S oi v a:=by exact Or.inl ⟨by rfl,by (intro w' hSw;(try dsimp only at hSw);go_simp)⟩) (h:Z→Lt P ops Q S late n (L.setIfInBounds i true) (a.put oi.dst v) w:=by (intro z;(try simp only [Ap]);exact z)):Lt P ops Q S late (n+1) L a w:=Lt.take hi hns hc hw hli hf hr hQ hy hS (h k)
theorem Lkd (i:Nat) (v:Value) (hS:S w) {Z:Prop} (k:Z) (hi:ops[i]?=some oi:=by rfl) (hns:Region.noSelect ops=true:=by kernel_rfl) (hc:cloB ops L=true:=by kernel_rfl) (hw:wtsB ops late i=true:=by kernel_rfl) (hli:late i=false:=by rfl) (hf:Region.free .any ops L i=true:=by kernel_rfl) (hr:(Region.ready .any ops L).contains i=true:=by kernel_rfl) (hQ:∀ c a w,Q (.panic c) (a.put oi.dst v) w→Q (.panic c) a w:=by exact fun _ _ _ h=>h) (hy:YieldsIf P ops S oi v a:=by exact Or.inl ⟨by rfl,by (intro w' hSw;(try dsimp only at hSw);go_simp <;> decide)⟩) (h:Z→Lt P ops Q S late n (L.setIfInBounds i true) (a.put oi.dst v) w:=by (intro z;(try simp only [Ap]);exact z)):Lt P ops Q S late (n+1) L a w:=Lt.take hi hns hc hw hli hf hr hQ hy hS (h k)
end
end Go.Proofs.YtjkjpopghkeibaaGreatDoor
