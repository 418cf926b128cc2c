/- A part of it. -/
import Derived.LaidMore
import Derived.Lib.SmallJoins
import Derived.Test.YtnpboeodhpenmaaGreatDoorCards
import Derived.Test.YtnpboeodhpenmaaGreatDoorTie
import Derived.Deep.DeepHandedRow
import Derived.Laws.AppendOwnNone
import Derived.Test.YtnpboeodhpenmaaGreatDoorQlac
import Derived.Laws.CopyOwn
set_option maxRecDepth 100000
set_option maxHeartbeats 40000000
namespace Go.Proofs.YtnpboeodhpenmaaGreatDoor
open Go.ChangeShapes Go.WideShapes Go.ChangeAt Go.WideMaps Go.WideElems Go.RowKit Go.Joins
variable {W w:World} {base c g i m n size:Nat} {zs:List Int} {u v:Value} {a:Act} {L:Array Bool} {H:Type} {o:Oper} {e:TypeId}
theorem Tryz.own:ownKnob Tryz.prog.godebug=none:=η
theorem gSteps:Tryz.prog.globalNamed "pleat/grid.steps" = some 0:=η
theorem tSteps:(Tryz.prog.globals[0]?).map (·.type)=some 263:=η
theorem c3:Tryz.prog.cellsOf 3=1:=η
theorem c25:Tryz.prog.cellsOf 40=2:=η
theorem c27:Tryz.prog.cellsOf 42=4:=η
theorem c70:Tryz.prog.cellsOf 22=1:=η
theorem c72:Tryz.prog.cellsOf 23=1:=η
theorem c74:Tryz.prog.cellsOf 25=4:=η
theorem c110:Tryz.prog.cellsOf 80=5:=η
theorem c119:Tryz.prog.cellsOf 263=8:=η
theorem Kp {enc:TypeId×Value→H} {k:Nat→Bool} {i:Bool} {d0 d1:Int} {j:List MemPlace}
  (h:DataW.trod enc Tryz.prog W base k i m 40 [u,v]=some (.agg [.lit (.int .i64 d0),.lit (.int .i64 d1)],j)):u=I d0∧v=I d1:=by
 obtain ⟨l,y1,n,g,_,h0,h1⟩:=trod_struct2 Tryz.underlying40 h;simp only [Prod.mk.injEq,DataW.agg.injEq,List.cons.injEq,and_true] at g;obtain ⟨⟨e0,e1⟩,_⟩:=g;simp [c3] at h0 h1;obtain ⟨a,e,c,_⟩:=DataW.trod_int Tryz.underlying3 h0;obtain ⟨b,f,d,_⟩:=DataW.trod_int Tryz.underlying3 h1;subst c d;simp at e0 e1 e f;subst e0 e1 e f;exact ⟨rfl,rfl⟩
theorem steps_of (h:laidMetH Tryz.prog [("pleat/grid.steps",Rows.laid_pleat_grid_steps)] W):Steps W:=by
 rw [MakeChecks.laidMetH_plain _ _ _ η] at h;obtain ⟨D,⟨A,t0,f,f0,C,E,e,j,k,g,_,_⟩,_,_⟩:=h;obtain rfl:=Option.some.inj (gSteps.symm.trans e);obtain rfl:=Option.some.inj (tSteps.symm.trans j);have c:=World.var?_cell e k;obtain ⟨z,B,rfl,a,d,i,b⟩:=DataW.trod_array Tryz.underlying263 g;rw [c119] at d;simp only [Prod.mk.injEq,Rows.laid_pleat_grid_steps,DataW.agg.injEq] at a;obtain ⟨a,_⟩:=a;obtain ⟨l⟩:=f;match z,i with
 | [x0,x1,x2,x3],_ =>
  match l,d with
  | [a0,a1,a2,a3,a4,a5,a6,a7],_ =>
   simp only [List.map_cons,List.map_nil,List.cons.injEq,and_true] at a;obtain ⟨e0,e1,e2,e3⟩:=a;have k0:=b 0 ψ;have k1:=b 1 ψ;have k2:=b 2 ψ;have k3:=b 3 ψ;obtain ⟨q,r⟩:=x0;obtain ⟨s,t⟩:=x1;obtain ⟨u,v⟩:=x2;obtain ⟨x,y⟩:=x3;simp at e0 e1 e2 e3;subst e0 e1 e2 e3;simp [c25] at k0 k1 k2 k3;obtain ⟨r0,r1⟩:=Kp k0;obtain ⟨r2,r3⟩:=Kp k1;obtain ⟨m,n⟩:=Kp k2;obtain ⟨o,p⟩:=Kp k3;subst r0 r1 r2 r3 m n o p;exact ⟨by simpa using c 0,by simpa using c 1,by simpa using c 2,by simpa using c 3,by simpa using c 4,by simpa using c 5,by simpa using c 6,by simpa using c 7⟩
theorem five {cs:List Value} (h:cs.length=5):∃ a0 a1 a2 a3 a4,cs=[a0,a1,a2,a3,a4]:=by
 match cs,h with
 | [a0,a1,a2,a3,a4],_=>exact ⟨a0,a1,a2,a3,a4,rfl⟩
theorem crease_of {enc:TypeId×Value→H} {e:Nat→Bool} {d:Bool} {cs:List Value} {y:DataW H×List MemPlace}
  (h:DataW.trod enc Tryz.prog W base e d m 80 cs=some y):∃ n0 n1 n2 n3 n4:Int,cs=[I n0,I n1,I n2,I n3,I n4]:=by
 obtain ⟨g,y1,n,_,a,h0,h1⟩:=trod_struct2 Tryz.underlying80 h;rw [c110] at a;obtain ⟨a0,a1,f,a3,a4,rfl⟩:=five a
 ·simp [c27,c3] at h0 h1;obtain ⟨c,b,_,_⟩:=DataW.trod_int Tryz.underlying3 h1;obtain ⟨z0,z1,_,_,_,k0,k1⟩:=trod_struct2 Tryz.underlying42 h0;simp [c25] at k0 k1;obtain ⟨_,_,_,_,_,l0,l1⟩:=trod_struct2 Tryz.underlying40 k0;obtain ⟨_,_,_,_,_,l2,l3⟩:=trod_struct2 Tryz.underlying40 k1;simp [c3] at l0 l1 l2 l3;obtain ⟨e0,r0,_,_⟩:=DataW.trod_int Tryz.underlying3 l0;obtain ⟨e1,r1,_,_⟩:=DataW.trod_int Tryz.underlying3 l1;obtain ⟨e2,r2,_,_⟩:=DataW.trod_int Tryz.underlying3 l2;obtain ⟨e3,r3,_,_⟩:=DataW.trod_int Tryz.underlying3 l3;simp at r0 r1 r2 r3 b;exact ⟨e0,e1,e2,e3,c,by rw [r0,r1,r2,r3,b]⟩
theorem creases_of {enc:TypeId×Value→H} {F:Nat→Bool} {C:Bool} {cs:List Value} {y:DataW H×List MemPlace}
  (h:DataW.trod enc Tryz.prog W base F C m 23 cs=some y):∃ (c:Option Addr) (n d:Nat) (x:List Int),cs=[.slice c n d]∧x.length=n*5∧Row W c x ∧
   (n=0∨∃ es rs:List (DataW H),es.length=n∧y.1=.slice es rs):=by
 rcases DataW.trod_slice Tryz.underlying23 h with ⟨rfl,_⟩ | ⟨a,len,d,f,rest,n,_,rfl,rfl,G,J,K,p,o,E,D⟩
 ·exact ⟨none,0,0,[],rfl,rfl,fun i hi=>absurd hi ξ,.inl rfl⟩
 rw [c110] at o
 have l:∀ i,i<len→∃ n0 n1 n2 n3 n4:Int,∀ j,j<5→W.cell? ((a.add (i*5)).add j)=[I n0,I n1,I n2,I n3,I n4][j]?:=by
  intro i hi;have e:=o i hi;rw [List.getElem?_eq_getElem γ,Option.bind_eq_some_iff] at e;obtain ⟨A,t,v⟩:=e;obtain ⟨n0,n1,n2,n3,n4,rfl⟩:=crease_of v;exact ⟨n0,n1,n2,n3,n4,(World.cells?_some t).2.2⟩
 have q:∀ i,i<len*5→∃ z:Int,W.cell? ((a.add (i / 5*5)).add (i % 5))=some (I z):=by
  intro i hi;obtain ⟨n0,n1,n2,n3,n4,B⟩:=l (i / 5) γ;have u:i % 5<5:=Nat.mod_lt _ γ;have:=B (i % 5) u;generalize i % 5=j at this u ⊢;match j,u with
  | 0,_=>exact ⟨n0,this⟩
  | 1,_=>exact ⟨n1,this⟩
  | 2,_=>exact ⟨n2,this⟩
  | 3,_=>exact ⟨n3,this⟩
  | 4,_=>exact ⟨n4,this⟩
 by_cases h0:len=0
 ·subst h0;exact ⟨_,0,d,[],rfl,rfl,fun i hi=>absurd hi ξ,.inl rfl⟩
 obtain ⟨b,off,rfl⟩:∃ b off,a=⟨b,off,none⟩:=by
  obtain ⟨b,off,s⟩:=a;obtain ⟨z,k⟩:=q 0 γ;have g:s=none:=by simpa [Addr.add] using World.cell?_spot k
  subst g;exact ⟨b,off,rfl⟩
 have r:∀ i,i<len*5→∃ z:Int,At W b (off+i) (I z):=by
  intro i hi;obtain ⟨z,k⟩:=q i hi;rw [add_plain,add_plain,Nat.add_assoc,Nat.div_add_mod' i 5] at k;exact ⟨z,k⟩
 refine ⟨_,len,d,(List.range (len*5)).map fun i=>match W.cell? ⟨b,off+i,none⟩ with | some (.int _ z)=>z | _=>0,rfl,ξ, ?_,.inr ⟨f.map (·.1),rest.map (·.1),by simpa using p,rfl⟩⟩;intro i hi;simp only [List.length_map,List.length_range] at hi;obtain ⟨z,k⟩:=r i hi;refine ⟨b,off,rfl, ?_⟩;simp [k]
theorem laidOut:laidOutB Tryz.prog=true:=η
theorem by3:Tryz.prog.bytesOf 3=8:=η
theorem by110:Tryz.prog.bytesOf 80=40:=η
theorem weights_sheet (a b c d:DataW H):DataW.weights Tryz.prog 25 (.agg [a,b,c,d])=DataW.weightsEach Tryz.prog [3,3,22,23] [a,b,c,d]:=by
 unfold DataW.weights;rw [Tryz.underlying25];rfl
def cellsB (W H:Int) (zs:List Int):Bool:=sideB W && sideB H && decide ((zs.length:Int)=W*H) && maskB zs
theorem cellsMay_w (W H:Int) (a:Option Addr) (b:Nat) (zs:List Int) (c:Value) (w:World) (d:sideB W=false) :
  Cl 119 #[.agg #[I W,I H,.slice a zs.length b,c]] w fun e w'=>e=.returned (.bool false)∧∃ o,w'=w.alloc o:=by
 have e1:inB W 1 8=false:=by simpa [inB,sideB] using d
 go_enter Tryz.func119,Tryz.ntmps119;go_wp2_with (go_at_call 136;refine (Jk _ _ _ _).mono ?_;rintro e w' ⟨rfl,rfl⟩)
 go_ret;exact ⟨rfl,_,rfl⟩
theorem cellsMay_h (W H:Int) (a:Option Addr) (b:Nat) (zs:List Int) (c:Value) (w:World) (f:sideB W=true) (d:sideB H=false) :
  Cl 119 #[.agg #[I W,I H,.slice a zs.length b,c]] w fun e w'=>e=.returned (.bool false)∧∃ o,w'=w.alloc o:=by
 have e1:inB W 1 8=true:=by simpa [inB,sideB] using f
 have e2:inB H 1 8=false:=by simpa [inB,sideB] using d
 go_enter Tryz.func119,Tryz.ntmps119;go_wp2_with (go_at_call 136;refine (Jk _ _ _ _).mono ?_;rintro e w' ⟨rfl,rfl⟩)
 go_ret;exact ⟨rfl,_,rfl⟩
theorem cellsMay_l (W H:Int) (a:Option Addr) (b:Nat) (zs:List Int) (c:Value) (w:World) (f:sideB W=true) (d:sideB H=true) (g:¬ (zs.length:Int)=W*H) :
  Cl 119 #[.agg #[I W,I H,.slice a zs.length b,c]] w fun e w'=>e=.returned (.bool false)∧∃ o,w'=w.alloc o:=by
 have b1:1≤W∧W≤8:=by simpa [sideB] using f
 have b2:1≤H∧H≤8:=by simpa [sideB] using d
 have h:0≤W*H∧W*H≤64:=by
  have h1:W=1∨W=2∨W=3∨W=4∨W=5∨W=6∨W=7∨W=8:=γ;rcases h1 with rfl | rfl | rfl | rfl | rfl | rfl | rfl | rfl <;> omega
 have e1:inB W 1 8=true:=by simpa [inB] using b1
 have e2:inB H 1 8=true:=by simpa [inB] using b2
 go_enter Tryz.func119,Tryz.ntmps119;go_wp2_with (go_at_call 136;refine (Jk _ _ _ _).mono ?_;rintro e w' ⟨rfl,rfl⟩)
 go_ret;exact ⟨rfl,_,rfl⟩
theorem cellsMay_m (W H:Int) (a:Option Addr) (d:Nat) (zs:List Int) (c:Value) (w:World) (r:sideB W=true) (q:sideB H=true) (hr:Row w a zs) (x:(zs.length:Int)=W*H) :
  Cl 119 #[.agg #[I W,I H,.slice a zs.length d,c]] w fun e w'=>e=.returned (.bool (maskB zs))∧∃ o,w'=w.alloc o:=by
 have b1:1≤W∧W≤8:=by simpa [sideB] using r
 have b2:1≤H∧H≤8:=by simpa [sideB] using q
 have y:0≤W*H∧W*H≤64:=by
  have h1:W=1∨W=2∨W=3∨W=4∨W=5∨W=6∨W=7∨W=8:=γ;rcases h1 with rfl | rfl | rfl | rfl | rfl | rfl | rfl | rfl <;> omega
 have e1:inB W 1 8=true:=by simpa [inB] using b1
 have e2:inB H 1 8=true:=by simpa [inB] using b2
 have p:=Hd hr;clear hr;go_enter Tryz.func119,Tryz.ntmps119;go_wp2_with (go_at_call 136;refine (Jk _ _ _ _).mono ?_;rintro e w' ⟨rfl,rfl⟩)
 go_loopg [3] zs.length (fun g t v=>∃ n:Nat,n≤zs.length∧g=zs.length - n∧t=I n∧(∀ i (hi:i<zs.length),i<n→0≤zs[i]∧zs[i]≤15)∧v=w.alloc (.cells #[I W,I H,.slice a zs.length d,c] 25))
 case atStart=>exact ⟨0,γ,rfl,rfl,fun i _ h=>by omega,rfl⟩
 case round =>
  obtain ⟨n,A,rfl,rfl,hp,rfl⟩:=hrel;have k:=Hd hp;clear hp;by_cases h1:n<zs.length
  ·obtain ⟨b,off,rfl,m⟩:=p.out n h1;have s:(n:Int)<(zs.length:Int):=γ;have B:(0:Int)≤(n:Int):=γ;have u:(w.alloc (.cells #[I W,I H,.slice (Ad b off) zs.length d,c] 25)).cell? ⟨b,off+n,none⟩=some (I zs[n]):=Qk m;obtain ⟨z,j⟩:∃ z,z=zs[n]:=⟨_,rfl⟩;rw [← j] at u;clear m;have l:=Hd j;clear j
   cases g1:inB z 0 15
   ·have f:Hid (maskB zs=false):=by
     show maskB zs=false
     simp only [maskB,List.all_eq_false,decide_eq_true_eq];refine ⟨zs[n],Lm h1, ?_⟩;rw [← l.out];simpa [inB] using g1
    go_wp2_with (go_at_call 136;refine (Jk _ _ _ _).mono ?_;rintro e w' ⟨rfl,rfl⟩)
    go_ret;exact ⟨by rw [f.out];rfl,_,rfl⟩
   ·go_wp2_with (go_at_call 136;refine (Jk _ _ _ _).mono ?_;rintro e w' ⟨rfl,rfl⟩)
    go_roundg (zs.length - (n+1))
    case measure=>omega
    case rel =>
     refine ⟨n+1,γ,rfl,σ,fun i hi h=>?_,rfl⟩;by_cases e:i=n
     ·subst e;have:=l.out;simp [inB] at g1;omega
     ·exact k.out i hi γ
  ·have s:¬ (n:Int)<(zs.length:Int):=γ
   have f:Hid (maskB zs=true):=by
    show maskB zs=true
    by_cases h:maskB zs=true
    ·exact h
    ·exact (mask_at (by simpa using h) (fun i hi=>k.out i hi γ)).elim
   go_wp2;go_ret;exact ⟨by rw [f.out];rfl,_,rfl⟩
theorem Gg (W H:Int) (a:Option Addr) (b:Nat) (zs:List Int) (c:Value) (w:World) (hr:Row w a zs) :
  Cl 119 #[.agg #[I W,I H,.slice a zs.length b,c]] w fun e w'=>e=.returned (.bool (cellsB W H zs))∧∃ o,w'=w.alloc o:=by
 unfold cellsB
 cases hW:sideB W
 ·exact cellsMay_w W H a b zs c w hW
 cases hH:sideB H
 ·exact cellsMay_h W H a b zs c w hW hH
 by_cases hl:(zs.length:Int)=W*H
 ·rw [decide_eq_true hl];exact cellsMay_m W H a b zs c w hW hH hr hl
 ·rw [decide_eq_false hl];exact cellsMay_l W H a b zs c w hW hH hl
def shB (z k:Int):Int:=if k=0 then z else if k=1 then z / 2 else if k=2 then z / 4 else z / 8
def bitB (z k:Int):Bool:=decide (shB z k % 2=1)
theorem bit_eq (z k:Int) (h0:0≤z) (h1:z≤15) (k0:0≤k) (k3:k≤3):(bits BinOp.and IntKind.i64 (z / 2 ^ k.toNat) 1 == 1)=bitB z k:=by
 have b:z=0∨z=1∨z=2∨z=3∨z=4∨z=5∨z=6∨z=7∨z=8∨z=9∨z=10∨z=11∨z=12∨z=13∨z=14∨z=15:=γ;have a:k=0∨k=1∨k=2∨k=3:=γ;rcases b with rfl | rfl | rfl | rfl | rfl | rfl | rfl | rfl | rfl | rfl | rfl | rfl | rfl | rfl | rfl | rfl <;> rcases a with rfl | rfl | rfl | rfl <;> rfl
theorem hasTri_in (W H x y k z:Int) (b off m a:Nat) (zs:List Int) (c:Value) (w:World) (p:1≤W∧W≤8) (o:1≤H∧H≤8) (r:0≤x∧x<W) (s:0≤y∧y<H) (d:0≤k∧k≤3)
  (i:y*W+x=(m:Int)) (q:m<zs.length) (h:zs.length≤64) (j:0≤y*W∧y*W≤64) (g:At w b (off+m) (I z)) (e:0≤z∧z≤15) :
  Rt 128 #[.agg #[I W,I H,.slice (Ad b off) zs.length a,c],.agg #[I x,I y,I k]] w (.bool (bitB z k)):=by
 have e1:inB x 0 (W - 1)=true:=by simp [inB];omega
 have e2:inB y 0 (H - 1)=true:=by simp [inB];omega
 have e3:inB k 0 3=true:=by simp [inB];omega
 have f:=Hd (bit_eq z k e.1 e.2 d.1 d.2);have u:(m:Int)<(zs.length:Int):=γ;have t:(0:Int)≤(m:Int):=γ;have A:IntKind.i64.wrap (W - 1)=W - 1:=υ;have v:IntKind.i64.wrap (H - 1)=H - 1:=υ;have C:=bk g;have l:IntKind.i64.wrap (y*W)=y*W:=υ;have n:IntKind.i64.wrap (y*W+x)=m:=by rw [i,IntKind.wrap_i64];omega
 have B:IntKind.i64.wrap (m:Int)=m:=υ;go_enter Tryz.func128,Tryz.ntmps128;go_wp2;go_quiet (first | (go_at_call 136;refine Calls.quiet_of_same (Jk _ _ _ _)))
 go_wp2;go_ret;refine ⟨Qv ?_, ?_⟩
 ·exact f.out
 ·with_reducible repeat' (first | exact Qe _ | refine Qb ?_ | refine Qr ?_ | refine Qg ?_)
theorem Xk {P:Program} (w:World) (t ty e:TypeId) (i:TypeInfo) (b:P.underlying t=some (.slice e)) (hi:P.info? e=some i) (a:Option Addr) (c:Nat) :
  (Builtin.append_ #[t,t] ty #[SN,.slice a 0 c]).run P w=.ok SN w:=by
 cases a <;> simp [Builtin.append_,run_underlying b,run_sizeOf w hi,Builtin.lenOf,Builtin.firstCells,loadCells,loadCellsFrom]
theorem Ye {P:Program} (w:World) {d:Array Oper} {rest:List Oper} {Q:Exit→Act→World→Prop} (f:o.guard=none) (s x:Operand) (t:TypeId)
  (k:o.op=.call { callee:=.builtin .append,args:=#[s,x],argTypes:=#[t,t] })
  (e:TypeId) (i:TypeInfo) (l:P.underlying t=some (.slice e)) (hi:P.info? e=some i) (g:Option Addr) (c:Nat)
  (hs:a.eval s=SN) (m:a.eval x=.slice g 0 c)
  (h:wpList P d Q rest (a.put o.dst SN) w):wpList P d Q (o :: rest) a w:=by
 refine wpList_plain f fun K j=>?_;have b:=Xk (P:=P) w t o.type e i l hi g c;unfold Oper.wp;simp [execOp,k,resolve,invoke,builtin,hs,m,b,Result.andThen];exact j _ _ h
theorem inf3:(Tryz.prog.info? 3).map (fun i=>(i.zero,i.size,i.bytes))=some (some (I 0),1,8):=η
theorem inf109:(Tryz.prog.info? 80).map (fun i=>(i.zero,i.size,i.bytes))=some (some (.agg #[I 0,I 0,I 0,I 0,I 0]),5,40):=η
def Sh (w:World) (g:Nat) (v0 v1 v2 v3:Value):Prop :=
 At w g 0 v0∧At w g 1 v1∧At w g 2 v2∧At w g 3 v3
theorem Sh.kept {d:World} {v0 b c v3:Value} (h:Sh w g v0 b c v3) (a:Bl w d):Sh d g v0 b c v3 :=
 ⟨Qa a h.1,Qa a h.2.1,Qa a h.2.2.1,Qa a h.2.2.2⟩
theorem Sh.lt {v0 a b v3:Value} (h:Sh w g v0 a b v3):g<w.heap.size:=bk h.1
theorem row_at {a:Option Addr} (h:Row w a zs) (d:0<zs.length):∃ b off,a=Ad b off∧∀ j u,(zs.map (fun z=>I z))[j]?=some u→w.cell? ((⟨b,off,none⟩:Addr).add j)=some u:=by
 obtain ⟨b,off,rfl,_⟩:=h 0 d;refine ⟨b,off,rfl,fun j u f=>?_⟩
 have g:j<zs.length:=by
  have:=List.getElem?_eq_some_iff.1 f;simpa using this.1
 obtain ⟨l,i,e,k⟩:=h j g;simp at e;obtain ⟨rfl,rfl⟩:=e;have c:(⟨b,off,none⟩:Addr).add j=⟨b,off+j,none⟩:=by unfold Addr.add;split <;> simp_all
 rw [c,k];simp [g] at f;exact congrArg some f
def RowF (w:World) (base:Nat) (a:Option Addr) (zs:List Int):Prop :=
 ∀ i (h:i<zs.length),∃ b off,a=Ad b off∧base≤b∧At w b (off+i) (I zs[i])
theorem RowF.row {a:Option Addr} (h:RowF w base a zs):Row w a zs:=fun i hi=>by
 obtain ⟨b,off,e,_,c⟩:=h i hi;exact ⟨b,off,e,c⟩
theorem RowF.kept {c:World} {a:Option Addr} (h:RowF w base a zs) (d:Bl w c):RowF c base a zs:=fun i hi=>by
 obtain ⟨b,off,e,g,f⟩:=h i hi;exact ⟨b,off,e,g,Qa d f⟩
theorem Qo {p a:Addr} (h:w.cell? a=some v) (b:a.block≠p.block):(w.setCell p u).cell? a=some v:=by
 have:=World.cell?_of_block (w:=w) (w':=w.setCell p u) (a:=a) (Below.heap_setCell w p u a.block b);exact this.trans h
theorem RowF.set {a:Option Addr} (h:RowF w base a zs) {p:Addr} (hp:p.block<base):RowF (w.setCell p u) base a zs:=fun i hi=>by
 obtain ⟨b,off,e,d,c⟩:=h i hi;exact ⟨b,off,e,d,Qo c θ⟩
theorem RowF.low {base':Nat} {a:Option Addr} (h:RowF w base a zs) (f:base'≤base):RowF w base' a zs:=fun i hi=>by
 obtain ⟨b,off,e,d,c⟩:=h i hi;exact ⟨b,off,e,γ,c⟩
theorem own_row (h:w.ownsRow base e size v n (zs.map (fun z=>I z))) (f:0<n) :
  ∃ g a,v=.slice (Az g) n a∧base≤g∧RowF w base (Az g) zs:=by
 have b:=h.1;rcases h.2 with ⟨_,h0⟩ | ⟨g,a,d,hv,c,_⟩
 ·omega
 ·subst hv;refine ⟨g,a,rfl,c,fun i hi=>⟨g,0,rfl,c, ?_⟩⟩;have:=h.cellAt i (by simp at b;omega);simp [hi] at this;simpa using this
theorem Ua (w:World) (base:Nat) (a:Option Addr):RowF w base a []:=fun i hi=>by simp at hi
theorem Kl (W H:Int) (a b:Option Addr) (A t n:Nat) (zs M:List Int) (w:World) (hz:Row w a zs) (hk:Row w b M) (hn:M.length=n*5) (h1:zs.length≤17592186044416) (h2:n≤3518437208883) :
  Cl 37 #[.agg #[I W,I H,.slice a zs.length A,.slice b n t]] w fun e w'=>∃ s f b' cb',e=.returned (.agg #[I W,I H,.slice s zs.length f,.slice b' n cb'])∧RowF w' w.heap.size s zs∧RowF w' w.heap.size b' M∧Bl w w'∧(b'=none∨∃ p o,b'=Ad p o):=by
 have HZ:=Hd hz;have HK:=Hd hk;have HN:=Hd hn;obtain ⟨i3,U,a2,a6,a7⟩:=info_parts inf3;obtain ⟨i9,V,X,Y,Z⟩:=info_parts inf109;have q:=H4 U a2 a6 a7;have r:=H4 V X Y Z;clear hz hk U a2 a6 a7 V X Y Z hn;have b0:Bl w ((w.alloc (.cells #[I W,I H,.slice a zs.length A,.slice b n t] 25)).alloc (.cells #[I 0,I 0,SN,SN] 25)):=Qb β1;have y:=Hd b0;clear b0;go_enter Tryz.func37,Tryz.ntmps37;go_upto_region 1 with fail
 go_cut [] (fun N=>∃ s f,Sh N w.heap.size (I W) (I H) (.slice s zs.length f) (.slice b n t)∧Fr N w.heap.size∧Sh N (w.heap.size+1) (I 0) (I 0) SN SN∧Fr N (w.heap.size+1)∧RowF N (w.heap.size+1+1) s zs∧Bl w N)
 case first =>
  by_cases he:zs.length=0
  ·have ah:zs=[]:=List.eq_nil_of_length_eq_zero he;subst ah;go_wp2_with (at_builtin;refine Ye _ rfl (.const SN) (.tmp 4) 22 rfl 3 i3 Tryz.underlying22 q.out.1 a A rfl rfl ?_)
   go_meet
   case rel =>
    refine ⟨none,0,⟨?_, ?_, ?_, ?_⟩, ?_,⟨?_, ?_, ?_, ?_⟩, ?_,Ua _ _ _, ?_⟩
    ·simp [go_sem]
    ·simp [go_sem]
    ·simp [go_sem]
    ·simp [go_sem]
    ·simp [Fr,go_sem]
    ·simp [go_sem]
    ·simp [go_sem]
    ·simp [go_sem]
    ·simp [go_sem]
    ·simp [Fr,go_sem]
    ·with_reducible repeat' (first | exact Qe _ | refine Qh ?_ ?_ | refine Qb ?_)
     all_goals (first | omega | (dsimp only;omega))
  ·obtain ⟨ba,off,rfl,T⟩:=row_at (HZ.out.kept y.out) γ;have P:=Hd T;clear T;go_wp2_with (at_builtin;refine wpList_append_grows _ rfl (.const SN) (.tmp 4) 22 rfl 3 i3 (I 0) 1 8 Tryz.underlying22 q.out.1 q.out.2.1 q.out.2.2.1 q.out.2.2.2 rfl ψ none 0 0 [] rfl (fun _=>⟨rfl,rfl⟩) rfl (by intro _ h;simp at h) ⟨ba,off,none⟩ zs.length A (zs.map (fun z=>I z)) rfl ξ (by intro j u B;exact P.out j u B) (by intro u B;obtain ⟨z,_,rfl⟩:=List.mem_map.1 B;rfl) γ Ξ γ ?grow)
   case grow =>
    intro v' w' i d;have c:Below ((w.alloc (.cells #[I W,I H,.slice (Ad ba off) zs.length A,.slice b n t] 25)).alloc (.cells #[I 0,I 0,SN,SN] 25)).heap.size ((w.alloc (.cells #[I W,I H,.slice (Ad ba off) zs.length A,.slice b n t] 25)).alloc (.cells #[I 0,I 0,SN,SN] 25)) w':=(Below.refl _ _).grown d (Nr _) (fun k h=>by cases h);obtain ⟨g,m,rfl,hg,l⟩:=own_row (by simpa using i) γ;have R:Hid (RowF w' (w.heap.size+1+1) (Az g) zs):=l.low ξ;have O:=Hd (Qc y.out c);have s0:At w' w.heap.size 0 (I W):=Qa c δ;have s1:At w' w.heap.size 1 (I H):=Qa c δ;have s2:At w' w.heap.size 2 (.slice (Ad ba off) zs.length A):=Qa c δ;have s3:At w' w.heap.size 3 (.slice b n t):=Qa c δ;have G:=Fk w.heap.size 0 c;have J:=Fk w.heap.size 1 c;have K:=Fk w.heap.size 2 c;have L:=Fk w.heap.size 3 c;have ab:=Fk w.heap.size 4 c;have ac:=Fk w.heap.size 5 c;have r0:At w' (w.heap.size+1) 0 (I 0):=Qa c δ;have r1:At w' (w.heap.size+1) 1 (I 0):=Qa c δ;have r2:At w' (w.heap.size+1) 2 SN:=Qa c δ;have r3:At w' (w.heap.size+1) 3 SN:=Qa c δ;have C:=Fk (w.heap.size+1) 0 c;have D:=Fk (w.heap.size+1) 1 c;have E:=Fk (w.heap.size+1) 2 c;have F:=Fk (w.heap.size+1) 3 c;have a8:=Fk (w.heap.size+1) 4 c;have aa:=Fk (w.heap.size+1) 5 c;have am:=Bt s0;have ak:=Bt r0;have b8:w.heap.size+1<g:=by first | omega | (simp at hg;omega)
    clear c l i d hg P;go_wp2;go_meet
    case rel =>
     refine ⟨Az g,m,⟨?_, ?_, ?_, ?_⟩, ?_,⟨?_, ?_, ?_, ?_⟩, ?_, ?_, ?_⟩
     ·simp [go_sem,s0]
     ·simp [go_sem,s1]
     ·simp [go_sem,s2]
     ·simp [go_sem,s3]
     ·simp [Fr,go_sem,G,J,K,L,ab,ac]
     ·simp [go_sem,r0]
     ·simp [go_sem,r1]
     ·simp [go_sem,r2]
     ·simp [go_sem,r3]
     ·simp [Fr,go_sem,C,D,E,F,a8,aa]
     ·exact R.out.set θ
     ·exact Qh O.out θ
 case rest =>
  obtain ⟨s,f,⟨s0,s1,s2,s3⟩,⟨G,J,K,L,ab,ac⟩,⟨r0,r1,r2,r3⟩,⟨C,D,E,F,a8,aa⟩,x,hB⟩:=hcut;have R:=Hd x;have O:=Hd hB;have am:=Bt s0;have ak:=Bt r0;have Q:=Hd (HK.out.kept hB);clear x hB y;by_cases he:n=0
  ·have ag:M=[]:=List.eq_nil_of_length_eq_zero (by rw [HN.out,he]);subst ag he;go_wp2_with (at_builtin;refine Ye _ rfl (.const SN) (.tmp 8) 23 rfl 80 i9 Tryz.underlying23 r.out.1 b t rfl rfl ?_)
   refine bodyPost_ret (v:=.agg #[I W,I H,.slice s zs.length f,SN]) ?_ rfl ⟨s,f,none,0,rfl, ?_,Ua _ _ _, ?_,Or.inl rfl⟩
   ·simp [results,Tryz.results37,go_sem, *]
   ·have h5:=R.out.low (base':=w.heap.size+1+1) (Nr _);refine RowF.low (base:=w.heap.size+1+1) ?_ γ;with_reducible repeat' (first | exact h5 | refine RowF.set ?_ ?_ | omega | (dsimp only;omega))
   ·with_reducible repeat' (first | exact O.out | refine Qh ?_ ?_)
    all_goals (first | omega | (dsimp only;omega))
  ·obtain ⟨bb,off,rfl,T⟩:=row_at Q.out (by rw [HN.out];omega);have P:=Hd T;clear T;go_wp2_with (at_builtin;refine wpList_append_grows _ rfl (.const SN) (.tmp 8) 23 rfl 80 i9 (.agg #[I 0,I 0,I 0,I 0,I 0]) 5 40 Tryz.underlying23 r.out.1 r.out.2.1 r.out.2.2.1 r.out.2.2.2 rfl ψ none 0 0 [] rfl (fun _=>⟨rfl,rfl⟩) rfl (by intro _ h;simp at h) ⟨bb,off,none⟩ n t (M.map (fun z=>I z)) rfl (by rw [List.length_map];exact HN.out) (by intro j u B;exact P.out j u B) (by intro u B;obtain ⟨z,_,rfl⟩:=List.mem_map.1 B;rfl) γ Ξ γ ?grow)
   case grow =>
    intro v' w' i d;have c:Bl wc w':=(Below.refl _ _).grown d (Nr _) (fun k h=>by cases h);obtain ⟨g,m,rfl,hg,l⟩:=own_row (n:=n) (by simpa using i) γ;have af:Hid (RowF w' (w.heap.size+1+1) (Az g) M):=l.low γ;have ae:=Hd (R.out.kept c);have ad:=Hd (Qc O.out c);have aj:At w' w.heap.size 0 (I W):=Qa c s0;have b5:At w' w.heap.size 1 (I H):=Qa c s1;have b6:At w' w.heap.size 2 (.slice s zs.length f):=Qa c s2;have b7:At w' w.heap.size 3 (.slice (Ad bb off) n t):=Qa c s3;have ar:Fn w' w.heap.size 0:=(c.frozen (p:=⟨w.heap.size,0,none⟩) θ).trans G;have au:Fn w' w.heap.size 1:=(c.frozen (p:=⟨w.heap.size,1,none⟩) θ).trans J;have av:Fn w' w.heap.size 2:=(c.frozen (p:=⟨w.heap.size,2,none⟩) θ).trans K;have aw:Fn w' w.heap.size 3:=(c.frozen (p:=⟨w.heap.size,3,none⟩) θ).trans L;have ai:At w' (w.heap.size+1) 0 (I 0):=Qa c r0;have ax:At w' (w.heap.size+1) 1 (I 0):=Qa c r1;have ay:At w' (w.heap.size+1) 2 SN:=Qa c r2;have az:At w' (w.heap.size+1) 3 SN:=Qa c r3;have an:Fn w' (w.heap.size+1) 0:=(c.frozen (p:=⟨w.heap.size+1,0,none⟩) θ).trans C;have ao:Fn w' (w.heap.size+1) 1:=(c.frozen (p:=⟨w.heap.size+1,1,none⟩) θ).trans D;have ap:Fn w' (w.heap.size+1) 2:=(c.frozen (p:=⟨w.heap.size+1,2,none⟩) θ).trans E;have aq:Fn w' (w.heap.size+1) 3:=(c.frozen (p:=⟨w.heap.size+1,3,none⟩) θ).trans F;have bc:=Bt aj;have b9:=Bt ai;clear c l i d hg P R O Q;go_wp2;refine bodyPost_ret (v:=.agg #[I W,I H,.slice s zs.length f,.slice (Az g) n m]) ?_ rfl ⟨s,f,Az g,m,rfl, ?_, ?_, ?_,Or.inr ⟨_,_,rfl⟩⟩
    ·simp [results,Tryz.results37,go_sem, *]
    ·have h5:=ae.out.low (base':=w.heap.size+1+1) (Nr _);refine RowF.low (base:=w.heap.size+1+1) ?_ γ;with_reducible repeat' (first | exact h5 | refine RowF.set ?_ ?_ | omega | (dsimp only;omega))
    ·have h5:=af.out.low (base':=w.heap.size+1+1) (Nr _);refine RowF.low (base:=w.heap.size+1+1) ?_ γ;with_reducible repeat' (first | exact h5 | refine RowF.set ?_ ?_ | omega | (dsimp only;omega))
    ·with_reducible repeat' (first | exact ad.out | refine Qh ?_ ?_)
     all_goals (first | omega | (dsimp only;omega))
theorem sheetOf_any (W H:Int) (a b:Option Addr) (i j n:Nat) (zs h:List Int) (w:World) (p:Row w a zs) (m:Row w b h) (o:h.length=n*5) (h1:zs.length≤17592186044416) (h2:n≤3518437208883) :
  Cl 37 #[.agg #[I W,I H,.slice a zs.length i,.slice b n j]] w fun e w'=>∃ f c g d,e=.returned (.agg #[I W,I H,.slice f zs.length c,.slice g n d])∧RowF w' w.heap.size f zs∧RowF w' w.heap.size g h∧Bl w w' :=
 (Kl W H a b i j n zs h w p m o h1 h2).mono fun _ _ ⟨f,c,g,d,l,r1,r2,k,_⟩=>⟨f,c,g,d,l,r1,r2,k⟩
def bitAt (zs:List Int) (W x y k:Nat):Bool:=bitB (zs.getD (y*W+x) 0) k
def tk (zs:List Int) (W x y n:Nat):List T3:=((List.range n).filter (fun k=>bitAt zs W x y k)).map (fun (k:Nat)=>((x:Int),(y:Int),(k:Int)))
def tx (zs:List Int) (W y n:Nat):List T3:=(List.range n).flatMap (fun x=>tk zs W x y 4)
def ty (zs:List Int) (W n:Nat):List T3:=(List.range n).flatMap (fun y=>tx zs W y W)
theorem tk_zero (zs:List Int) (W x y:Nat):tk zs W x y 0=[]:=by simp [tk]
theorem tx_zero (zs:List Int) (W y:Nat):tx zs W y 0=[]:=by simp [tx]
theorem tk_yes {W x y:Nat} (h:bitAt zs W x y n=true):tk zs W x y (n+1)=tk zs W x y n ++ [((x:Int),(y:Int),(n:Int))]:=by
 simp [tk,List.range_succ,List.filter_append,h]
theorem tk_no {W x y:Nat} (h:bitAt zs W x y n=false):tk zs W x y (n+1)=tk zs W x y n:=by
 simp [tk,List.range_succ,List.filter_append,h]
theorem Qbj (zs:List Int) (W y n:Nat):tx zs W y (n+1)=tx zs W y n ++ tk zs W n y 4:=by
 simp [tx,List.range_succ,List.flatMap_append]
theorem Qbi (zs:List Int) (W n:Nat):ty zs W (n+1)=ty zs W n ++ tx zs W n W:=by
 simp [ty,List.range_succ,List.flatMap_append]
theorem tk_len (zs:List Int) (W x y n:Nat):(tk zs W x y n).length≤n:=by
 unfold tk;rw [List.length_map];exact Nt (List.length_filter_le _ _) ξ
theorem tx_len (zs:List Int) (W y n:Nat):(tx zs W y n).length≤4*n:=by
 induction n with
 | zero=>simp [tx]
 | succ n ih =>
  rw [Qbj,List.length_append];have:=tk_len zs W n y 4;omega
theorem Yu (zs:List Int) (W n:Nat) (a:W≤8):(ty zs W n).length≤32*n:=by
 induction n with
 | zero=>simp [ty]
 | succ n ih =>
  rw [Qbi,List.length_append];have:=tx_len zs W n W;omega
def flatV (l:List T3):List Value:=l.flatMap fun t=>[I t.1,I t.2.1,I t.2.2]
theorem Xr (l m:List T3):flatV (l ++ m)=flatV l ++ flatV m:=by simp [flatV,List.flatMap_append]
theorem Xg (w:World) (a b c:Int):∀ j u,([I a,I b,I c])[j]?=some u→(w.alloc (.cells #[I a,I b,I c] 51)).cell? ((⟨w.heap.size,0,none⟩:Addr).add j)=some u:=by
 intro j u d;match j,d with
 | 0,d=>simp at d;subst d;simp [go_sem,Addr.add]
 | 1,d=>simp at d;subst d;simp [go_sem,Addr.add]
 | 2,d=>simp at d;subst d;simp [go_sem,Addr.add]
theorem Qj {w':World} {c:List Value} (h:w.ownsRow base e size v n c) (d:Bl w w'):w'.ownsRow base e size v n c:=by
 refine ⟨h.1, ?_⟩;rcases h.2 with ⟨h1,h2⟩ | ⟨g,a,b,h1,h2,h3,h4⟩
 ·exact .inl ⟨h1,h2⟩
 ·refine .inr ⟨g,a,b,h1,h2, ?_,h4⟩
  have hg:g<w.heap.size:=by
   rcases Nat.lt_or_ge g w.heap.size with h | h
   ·exact h
   ·rw [Array.getElem?_eq_none h] at h3;cases h3
  rw [d.block g hg];exact h3
theorem Qw {d:List Value} (h:w.ownsRow base e size v n d):∀ k,v.ownBlock=some k→base≤k:=by
 intro k a;rcases h.2 with ⟨rfl,_⟩ | ⟨g,b,c,rfl,h2,_⟩
 ·simp [Value.ownBlock] at a
 ·simp [Value.ownBlock] at a;omega
def TI (w wx:World) (W H b off cap:Nat) (zs:List Int) (c v:Value) (L:List T3):Prop :=
 wx.ownsRow (w.heap.size+1) 51 3 v L.length (flatV L)∧Sh wx w.heap.size (I (W:Int)) (I (H:Int)) (.slice (Ad b off) zs.length cap) c∧Bl w wx∧w.heap.size+1≤wx.heap.size
theorem inf23:(Tryz.prog.info? 51).map (fun i=>(i.zero,i.size,i.bytes))=some (some (.agg #[I 0,I 0,I 0]),3,24):=η
theorem TI.kept {wr e:World} {W H b off a:Nat} {c:Value} {L:List T3} (h:TI w wr W H b off a zs c v L) (d:Bl wr e):TI w e W H b off a zs c v L :=
 ⟨Qj h.1 d,h.2.1.kept d,Qc h.2.2.1 d,Nt h.2.2.2 d.size⟩
theorem Yv (W H b off f:Nat) (zs:List Int) (c:Value) (w:World) (hr:Row w (Ad b off) zs) (hW:1≤W∧W≤8) (hH:1≤H∧H≤8) (U:zs.length=W*H) (j:maskB zs=true) :
  Cl 51 #[.agg #[I (W:Int),I (H:Int),.slice (Ad b off) zs.length f,c]] w fun e w'=>∃ v,e=.returned v∧w'.ownsRow (w.heap.size+1) 51 3 v (ty zs W H).length (flatV (ty zs W H))∧Bl w w':=by
 have HR:=Hd hr;have Q:zs.length≤64:=by rw [U];exact Nt (Nat.mul_le_mul hW.2 hH.2) ψ
 have HM:Hid (∀ z∈zs,0≤z∧z≤15):=by
  show ∀ z∈zs,0≤z∧z≤15
  simpa [maskB] using j
 have HL:=Hd U;obtain ⟨i0,hi,C,D,E⟩:=info_parts inf23;have K:=H4 hi C D E;clear hr j U hi C D E;obtain ⟨w1,w8⟩:=hW;obtain ⟨h1,h8⟩:=hH;go_enter Tryz.func51,Tryz.ntmps51;go_wp2;go_loopg [3,4] H (fun g G s4 J=>∃ y:Nat,y≤H∧g=H - y∧s4=I (y:Int)∧TI w J W H b off f zs c (G) (ty zs W y))
 case atStart=>exact ⟨0,γ,rfl,rfl,by simpa [ty,flatV] using World.ownsRow_nil _ _ _ _,by simp [Sh,go_sem],Qb (Qe _),ξ⟩
 case round =>
  obtain ⟨y,hy,rfl,rfl,hT⟩:=hrel;obtain ⟨va,V⟩:∃ u,u=u3:=⟨_,rfl⟩;subst V;have d:=Hd hT;clear hT;obtain ⟨F,N,O,P⟩:=d.out.2.1;by_cases hy1:y<H
  ·have iy:(y:Int)<(H:Int):=γ;go_wp2;go_loopg [3,5] W (fun g G s5 J=>∃ x:Nat,x≤W∧g=W - x∧s5=I (x:Int)∧TI w J W H b off f zs c (G) (ty zs W y ++ tx zs W y x))
   case atStart=>exact ⟨0,γ,rfl,rfl,by rw [tx_zero,List.append_nil];exact d.out⟩
   case round =>
    clear d F N O P;obtain ⟨x,hx,rfl,rfl,hT⟩:=hrel;obtain ⟨vb,X⟩:∃ u,u=u3:=⟨_,rfl⟩;subst X;have d:=Hd hT;clear hT;obtain ⟨F,N,O,P⟩:=d.out.2.1;by_cases hx1:x<W
    ·have ix:(x:Int)<(W:Int):=γ;go_wp2;go_loopg [3,6] 4 (fun g G s6 J=>∃ k:Nat,k≤4∧g=4 - k∧s6=I (k:Int)∧TI w J W H b off f zs c (G) (ty zs W y ++ tx zs W y x ++ tk zs W x y k))
     case atStart=>exact ⟨0,γ,rfl,rfl,by rw [tk_zero,List.append_nil];exact d.out⟩
     case round =>
      clear d F N O P;obtain ⟨k,hk,rfl,rfl,hT⟩:=hrel;obtain ⟨vc,Y⟩:∃ u,u=u3:=⟨_,rfl⟩;subst Y;have d:=Hd hT;clear hT;obtain ⟨F,N,O,P⟩:=d.out.2.1;by_cases hk1:k<4
      ·have ik:(k:Int)<4:=γ
       have Z:y*W+W≤W*H:=by
        have:=Nat.mul_le_mul_right W (show y+1≤H by omega);rw [Nat.succ_mul,Nat.mul_comm H W] at this;exact this
       have j:y*W+x<zs.length:=by rw [HL.out];omega
       have B:y*W≤64:=by have:=HL.out;omega
       obtain ⟨b',a6,e',T⟩:=(HR.out.kept d.out.2.2.1) (y*W+x) j;simp at e';obtain ⟨rfl,rfl⟩:=e';have n:=HM.out _ (Lm j);have m:bitAt zs W x y k=bitB (zs[y*W+x]) k:=by simp [bitAt,j]
       obtain ⟨z,hz⟩:∃ z,z=zs[y*W+x]:=⟨_,rfl⟩;rw [← hz] at T n m;have a7:=Bt F;have a8:w.heap.size<wr.heap.size+1:=γ
       have HC:Hid (∀ L:World,Bl wr L→Rt 128 #[.agg #[I (W:Int),I (H:Int),.slice (Ad b off) zs.length f,c],.agg #[I (x:Int),I (y:Int),I (k:Int)]] L (.bool (bitB z k))):=fun L R =>
        hasTri_in W H x y k z b off (y*W+x) f zs c L γ γ γ γ γ ξ j Q (by constructor <;> (rw [← Int.natCast_mul];omega)) (Qa R T) n
       have s:=Hd m;clear T n m hz j Z B
       cases hbit:bitB z k
       ·go_wp2_with (go_at_call 128;refine (HC.out _ Θ).mono ?_;rintro e o ⟨rfl,i⟩;have a:=Hd (d.out.kept (Qc β1 i));clear i)
        go_roundg (4 - (k+1))
        case measure=>omega
        case rel=>exact ⟨k+1,γ,rfl,σ,by rw [tk_no (s.out.trans hbit)];exact a.out⟩
       ·have a2:(ty zs W y ++ tx zs W y x ++ tk zs W x y k).length+1≤1000:=by
         have q1:=Yu zs W y w8;have q2:=tx_len zs W y x;have q3:=tk_len zs W x y k;simp only [List.length_append];omega
        go_wp2_with (first
         | (go_at_call 128;refine (HC.out _ Θ).mono ?_;rintro e o ⟨rfl,i⟩;have a:=Hd (d.out.kept (Qc β1 i));have n0:At o wr.heap.size 0 (I (x:Int)):=Qa i δ;have n1:At o wr.heap.size 1 (I (y:Int)):=Qa i δ;have n2:At o wr.heap.size 2 (I (k:Int)):=Qa i δ;have zn:=Bt n0;clear i)
         | (at_builtin;refine wpList_append_own _ rfl (.tmp 31) (.tmp 33) 55 rfl (w.heap.size+1) 51 i0 (.agg #[I 0,I 0,I 0]) 3 24 Tryz.underlying55 K.out.1 K.out.2.1 K.out.2.2.1 K.out.2.2.2 rfl ψ vc (ty zs W y ++ tx zs W y x ++ tk zs W x y k).length (flatV (ty zs W y ++ tx zs W y x ++ tk zs W x y k)) rfl ?own ⟨o.heap.size,0,none⟩ 1 1 [I (x:Int),I (y:Int),I (k:Int)] rfl rfl ?c1 ?c2 ?b1 ?b2 ?b3 ?grow))
        case own=>exact Qj a.out.1 β1
        case c1=>exact Xg _ _ _ _
        case c2 =>
         intro u hu;simp at hu;rcases hu with rfl | rfl | rfl <;> rfl
        case b1 =>
         unfold maxLen;omega
        case b2=>omega
        case b3 =>
         have:=a.out.2.2.2;simp;omega
        case grow =>
         intro v' w3 l h A;have t:=Below.grown (Below.refl (w.heap.size+1) _) h (by have:=a.out.2.2.2;simp;omega) (Qw a.out.1);have ho:w3.ownsRow (w.heap.size+1) 51 3 v' ((ty zs W y ++ tx zs W y x ++ tk zs W x y k).length+1) (flatV (ty zs W y ++ tx zs W y x ++ tk zs W x y k) ++ [I (x:Int),I (y:Int),I (k:Int)]):=by simpa [List.length_append,List.append_assoc,Nat.add_assoc] using l
         have HO:=Hd ho;clear ho;have r:=Hd t;clear l h A t;go_wp2;go_roundg (4 - (k+1))
         case measure=>omega
         case rel =>
          have M:Sh (o.alloc (.cells #[I (x:Int),I (y:Int),I (k:Int)] 51)) w.heap.size (I (W:Int)) (I (H:Int)) (.slice (Ad b off) zs.length f) c:=a.out.2.1.kept β1;have hB:Bl w (o.alloc (.cells #[I (x:Int),I (y:Int),I (k:Int)] 51)):=Qb a.out.2.2.1;have hE:ty zs W y ++ tx zs W y x ++ tk zs W x y (k+1)=(ty zs W y ++ tx zs W y x ++ tk zs W x y k) ++ [((x:Int),(y:Int),(k:Int))]:=by rw [tk_yes (s.out.trans hbit),← List.append_assoc]
          refine ⟨k+1,γ,rfl,σ, ?_,⟨?_, ?_, ?_, ?_⟩,hB.trans (r.out.mono γ), ?_⟩
          ·rw [hE,Xr,List.length_append];exact HO.out
          ·exact (r.out.cell (p:=⟨w.heap.size,0,none⟩) θ).trans M.1
          ·exact (r.out.cell (p:=⟨w.heap.size,1,none⟩) θ).trans M.2.1
          ·exact (r.out.cell (p:=⟨w.heap.size,2,none⟩) θ).trans M.2.2.1
          ·exact (r.out.cell (p:=⟨w.heap.size,3,none⟩) θ).trans M.2.2.2
          ·have q:=r.out.size;have q2:=a.out.2.2.2;simp at q;omega
      ·go_wp2;go_roundg (W - (x+1))
       case measure=>omega
       case rel =>
        obtain rfl:k=4:=γ;exact ⟨x+1,γ,rfl,σ,by rw [Qbj,← List.append_assoc];exact d.out⟩
    ·have ix:¬ (x:Int)<(W:Int):=γ;go_wp2;go_roundg (H - (y+1))
     case measure=>omega
     case rel =>
      obtain rfl:x=W:=γ;exact ⟨y+1,γ,rfl,σ,by rw [Qbi];exact d.out⟩
  ·have iy:¬ (y:Int)<(H:Int):=γ;obtain rfl:y=H:=γ;go_wp2;go_ret;exact ⟨va,rfl,d.out.1,d.out.2.2.1⟩
theorem mul_one_any (n:Nat) (h:n≤1000000) (w:World):Cl 248 #[.int .u64 1,.int .u64 (n:Int)] w fun e w'=>e=.returned (.tuple #[.int .u64 0,.int .u64 (n:Int)])∧w'=w:=by
 have:=Tryz.bits_Mul 1 n γ γ w;have e1:1*n / 18446744073709551616=0:=γ;have e2:1*n % 18446744073709551616=n:=γ;rw [e1,e2] at this;exact this
def rp (z:Int) (m n:Nat):List Value:=List.replicate m (I z) ++ List.replicate (n - m) (I 0)
theorem rp_len (z:Int) (h:m≤n):(rp z m n).length=n:=by simp [rp];omega
theorem rp_splice (z:Int) (_h:m+c≤n):splice (rp z m n) m (List.replicate c (I z))=rp z (m+c) n:=by
 unfold splice rp
 have e1:List.take m (List.replicate m (I z) ++ List.replicate (n - m) (I 0))=List.replicate m (I z):=by
  rw [List.take_append_of_le_length ξ];simp
 have e2:List.drop (m+(List.replicate c (I z)).length) (List.replicate m (I z) ++ List.replicate (n - m) (I 0))=List.replicate (n - (m+c)) (I 0):=by
  rw [List.drop_append,List.drop_eq_nil_of_le ξ,List.nil_append,List.drop_replicate];congr 1
  simp;omega
 rw [e1,e2,← List.append_assoc,List.replicate_append_replicate]
theorem rp_cell {z:Int} (h:w.heap[g]?=some (.cells (rp z m n).toArray 3 (0,0))) (e:c≤m):∀ j v,(List.replicate c (I z))[j]?=some v→w.cell? ((⟨g,0,none⟩:Addr).add j)=some v:=by
 intro j v hv
 have a:j<c:=by
  rcases Nat.lt_or_ge j c with a | a
  ·exact a
  ·rw [List.getElem?_eq_none (by simpa using a)] at hv
   cases hv
 have b:v=I z:=by
  rw [List.getElem?_eq_getElem (by simpa using a)] at hv;simpa using hv.symm
 subst b;have d:(⟨g,0,none⟩:Addr).add j=⟨g,j,none⟩:=by unfold Addr.add;split <;> simp_all
 rw [d];simp [World.cell?,h,rp];rw [List.getElem?_append_left ω];rw [List.getElem?_replicate,if_pos γ]
theorem rep_one (c:Nat) (z:Int):∀ v∈List.replicate c (I z),v.oneCell'=true:=by
 intro v hv;rw [List.eq_of_mem_replicate hv];rfl
theorem made_row (f:w.ownsRow base 3 1 (.slice (Az g) n n) n (madeCells #[I 0] n).toList):w.heap[g]?=some (.cells (List.replicate n (I 0)).toArray 3 (0,0)):=by
 rcases f.2 with ⟨e,_⟩ | ⟨h,c,a,e,h2,h3,h4,h5,h6,b⟩
 ·cases e
 ·simp only [Value.slice.injEq,Option.some.injEq,Addr.mk.injEq,and_true,true_and] at e;obtain ⟨rfl,rfl⟩:=e
  have d:a.toList=List.replicate n (I 0):=by
   rw [Nat.mul_one,List.take_of_length_le (by rw [Array.length_toList];omega)] at b;rw [b];apply List.ext_getElem
   ·simp [madeCells]
   ·intro i h1 h2;simp [madeCells,Nat.mod_one]
  rw [h3,← d]
theorem repeat_any (z:Int) (D n:Nat) (w:World) (hn:n≤1000000) (Q:At w D 0 (I z)) :
  Cl 167 #[.slice (Az D) 1 1,I (n:Int)] w fun e w'=>e=.returned (.slice (Az w.heap.size) n n)∧w'.heap[w.heap.size]?=some (.cells (rp z n n).toArray 3 (0,0))∧Bl w w':=by
 obtain ⟨i3,o,B,p,C⟩:=info_parts inf3;have f:=H4 o B p C;have A:(Tryz.prog.info? 3).map (fun i=>i.size)=some 1:=by rw [o];simp [p]
 have r:=Hd A;clear o B p C A;have n0:(0:Int)≤(n:Int):=γ;have n1:(n:Int)≤1000000:=γ;go_enter Tryz.func167,Tryz.ntmps167
 go_wp2_with (first
  | (go_at_call 248;refine (mul_one_any n hn _).mono ?_;rintro e w' ⟨rfl,T⟩;have M:=T.symm;clear T;subst M)
  | (at_make;refine wpList_make_full _ rfl (.tmp 29) (.tmp 29) 22 rfl w.heap.size 3 i3 (I 0) 1 Tryz.underlying22 f.out.1 f.out.2.1 f.out.2.2.1 .i64 .i64 _ _ n rfl rfl rfl rfl ?b2 ?b3 ?b4 ?mk))
 case b2 =>
  rw [f.out.2.2.2];omega
 case b3 =>
  unfold maxLen;omega
 case b4=>exact Nr _
 case mk =>
  intro F R hg;have b:Bl w F:=(Below.refl _ _).grown hg (Nr _) (fun k h=>by cases h);have l:F.heap[w.heap.size]?=some (.cells (rp z 0 n).toArray 3 (0,0)):=by simpa [rp] using made_row R
  clear R hg;have G:=H2 b l;have s:At F D 0 (I z):=Qa b Q;have q:=Hd s;clear b l Q s;obtain ⟨c,a⟩:∃ c,c=Nat.min 1 n:=⟨_,rfl⟩;have K:c≤1:=by rw [a];exact Nat.min_le_left _ _
  have t:c≤n:=by rw [a];exact Nat.min_le_right _ _
  have u:n=0∨c=1:=by
   rcases Nat.eq_zero_or_pos n with h | h
   ·exact Or.inl h
   ·exact Or.inr (by rw [a];exact Nat.min_eq_left h)
  have J:Hid (0<(List.replicate c (I z)).length→(some (⟨w.heap.size,0,none⟩:Addr))=Az w.heap.size∧∃ ad,(some (⟨D,0,none⟩:Addr))=some ad∧∀ j v,(List.replicate c (I z))[j]?=some v→F.cell? (ad.add j)=some v):=fun _=>⟨rfl,_,rfl,fun j v hv=>by
   have x:j<c:=by
    rcases Nat.lt_or_ge j c with x | x
    ·exact x
    ·rw [List.getElem?_eq_none (by simpa using x)] at hv
     cases hv
   obtain rfl:j=0:=γ;rw [List.getElem?_replicate,if_pos x] at hv;rw [← hv];simpa [Addr.add] using q.out⟩
  go_wp2_with (refine wpList_copy_splice Ω (.tmp 31) (.tmp 32) 22 22 Ω 3 Tryz.underlying22 r.out (Az w.heap.size) (Az D) n n 1 1 Ω Ω w.heap.size 0 (rp z 0 n) 3 G.out.2 (List.replicate c (I z)) (by rw [List.length_replicate];exact a) J.out (by rw [List.length_replicate,rp_len z (Nat.zero_le n)];omega) (rep_one c z) w.heap.size w G.out.1 (Nr _) ?_;intro N d g)
  have O:Hid (N.heap[w.heap.size]?=some (.cells (rp z c n).toArray 3 (0,0))∧Bl w N):=by
   have:=d.out;rw [rp_splice z γ,Nat.zero_add] at this;exact ⟨this,g⟩
  have H:=Hd a;clear d g G q a;go_loopg [8] n (fun W s8 U=>∃ m:Nat,m≤n∧n - m≤W∧s8=I (m:Int)∧(n=0∨1≤m)∧U.heap[w.heap.size]?=some (.cells (rp z m n).toArray 3 (0,0))∧Bl w U)
  case atStart=>exact ⟨c,t,γ,by rw [H.out],u.imp id (fun h=>by omega),O.out⟩
  case round =>
   clear t u K O;obtain ⟨m,hm,X,rfl,a2,hr,P⟩:=hrel;have E:=H2 hr P;clear hr P;by_cases h1:m<n
   ·have i1:(m:Int)<(n:Int):=γ;have i0:(0:Int)≤(m:Int):=γ;have i2:(m:Int)≤(n:Int):=γ;obtain ⟨k,y⟩:∃ k,k=Nat.min m (n - m):=⟨_,rfl⟩;have L:k≤m:=by rw [y];exact Nat.min_le_left _ _
    have Y:k≤n - m:=by rw [y];exact Nat.min_le_right _ _
    have Z:1≤k:=by rw [y];exact Nat.le_min.2 ⟨γ,γ⟩
    have a6:¬ n=m:=γ;have V:=Hd y;clear y;go_wp2;go_region_held3 (fun _=>True) (trivial) (((refine step_copy_splice Ω (.tmp 41) (.tmp 44) 22 22 Ω 3 Tryz.underlying22 r.out (Ad w.heap.size m) (Az w.heap.size) (n - m) (n - m) m n Ω Ω w.heap.size m (rp z m n) 3 E.out.1 (List.replicate k (I z)) (by rw [List.length_replicate];exact V.out) (fun _=>⟨rfl,_,rfl,rp_cell E.out.1 L⟩) (by rw [List.length_replicate,rp_len z hm];omega) (rep_one k z) w.heap.size w (Qg E.out.2) (Nr _) ?_;intro N d g)))
    all_goals
     go_wp2;go_roundg (n - (m+k))
     case measure=>omega
     case rel =>
      refine ⟨m+k,γ,γ,(congrArg _ (by first | omega | (rw [IntKind.wrap_i64];omega))),Or.inr γ, ?_,g⟩;have:=d.out;rw [rp_splice z γ] at this;exact this
   ·have i1:¬ (m:Int)<(n:Int):=γ;obtain rfl:m=n:=γ;go_wp2;go_ret;exact ⟨rfl,E.out⟩
theorem none_yes (w:World) :
  Rt 13 #[.agg #[I 0,I 0,SN,SN,SN,SN]] w (.bool true):=by
 go_enter Tryz.func13,Tryz.ntmps13;go_wp2;go_ret;exact ⟨rfl,γ1⟩
section
variable {P:Program} {ops:Array Oper} {Q:Exit→Act→World→Prop} {S:World→Prop} {late:Nat→Bool}
def Lt (P:Program) (ops:Array Oper) (Q:Exit→Act→World→Prop) (S:World→Prop) (late:Nat→Bool):Nat→Array Bool→Act→World→Prop
 | 0,L,a,w=>Region.ready .any ops L=[]∧Q .normal a w
 | n+1,L,a,w=>(Region.ready .any ops L=[]→Q .normal a w)∧∀ i,i∈Region.ready .any ops L→wpOp P ops Q i (fun a' w'=>(late i=false→S w')∧Lt P ops Q S late n (L.setIfInBounds i true) a' w') a w
theorem Lt.any:∀ (n:Nat) (L:Array Bool) (a:Act) (w:World),Lt P ops Q S late n L a w→wpAny P .any ops Q n L a w
 | 0,_,_,_,h=>h
 | n+1,L,_,_,h=>⟨h.1,fun i hi=>wpOp_mono (fun b w' k=>Lt.any n (L.setIfInBounds i true) b w' k.2) (h.2 i hi)⟩
def Clo (ops:Array Oper) (L:Array Bool):Prop := ∀ j o,ops[j]?=some o→L.getD j false=true→∀ e∈o.after,Region.binds .any e=true→L.getD e.on false=true
def cloB (ops:Array Oper) (L:Array Bool):Bool:=(List.range ops.size).all fun j => !(L.getD j false) || match ops[j]? with | some o=>o.after.toList.all fun e => !(Region.binds .any e) || L.getD e.on false | none=>true
theorem clo_of (h:cloB ops L=true):Clo ops L:=fun j o b f e d c=>by
 have a:j<ops.size:=by
  rcases Nat.lt_or_ge j ops.size with k | k
  ·exact k
  ·rw [Array.getElem?_eq_none k] at b
   cases b
 have h1:=List.all_eq_true.1 h j (List.mem_range.2 a);rw [f,b] at h1;simp only [Bool.not_true,Bool.false_or] at h1;have h2:=List.all_eq_true.1 h1 e (by simpa using d);rw [c] at h2;simpa using h2
def Wt (ops:Array Oper) (i:Nat):Nat→Nat→Prop
 | 0,_=>False
 | n+1,j=>∃ o,ops[j]?=some o∧∃ e,e∈o.after∧Region.binds .any e=true∧(e.on=i∨Wt ops i n e.on)
def wtB (ops:Array Oper) (i:Nat):Nat→Nat→Bool
 | 0,_=>false
 | n+1,j=>match ops[j]? with | some o=>o.after.toList.any fun e=>Region.binds .any e && (e.on == i || wtB ops i n e.on) | none=>false
theorem wt_of:∀ (n j:Nat),wtB ops i n j=true→Wt ops i n j
 | 0,_,h=>by cases h
 | n+1,j,h=>by
  unfold wtB at h
  cases ho:ops[j]? with
  | none=>rw [ho] at h;cases h
  | some o =>
   rw [ho] at h;obtain ⟨e,a,h2⟩:=List.any_eq_true.1 h;rw [Bool.and_eq_true,Bool.or_eq_true] at h2;refine ⟨o,ho,e,by simpa using a,h2.1, ?_⟩;rcases h2.2 with h3 | h3
   ·exact Or.inl (by simpa using h3)
   ·exact Or.inr (wt_of n e.on h3)
theorem wt_came (d:Clo ops L):∀ (n j:Nat),Wt ops i n j→(∀ o,ops[j]?=some o→∀ e∈o.after,Region.binds .any e=true→L.getD e.on false=true)→L.getD i false=true
 | 0,_,h,_=>h.elim
 | n+1,j,⟨o,ho,e,he,hb,h⟩,hj=>by
  have h1:=hj o ho e he hb;rcases h with h | h
  ·rw [h] at h1;exact h1
  ·exact wt_came d n e.on h (fun o2 c e2 b a=>d e.on o2 c h1 e2 b a)
def Wts (ops:Array Oper) (late:Nat→Bool) (i:Nat):Prop := ∀ j o,ops[j]?=some o→late j=true→Wt ops i 8 j
def wtsB (ops:Array Oper) (late:Nat→Bool) (i:Nat):Bool:=(List.range ops.size).all fun j => !(late j) || wtB ops i 8 j
theorem wts_of (h:wtsB ops late i=true):Wts ops late i:=fun j o b c=>by
 have a:j<ops.size:=by
  rcases Nat.lt_or_ge j ops.size with k | k
  ·exact k
  ·rw [Array.getElem?_eq_none k] at b
   cases b
 have h1:=List.all_eq_true.1 h j (List.mem_range.2 a);rw [c] at h1;exact wt_of 8 j (by simpa using h1)
theorem getD_apart (h:L.getD i true=false):L.getD i false=false:=by
 rcases Nat.lt_or_ge i L.size with k | k
 ·simp [k] at h ⊢;exact h
 ·simp [Array.getElem?_eq_none k] at h
theorem clo_set (h:Clo ops L) {j:Nat} (i:j∈Region.ready .any ops L):Clo ops (L.setIfInBounds j true):=fun k o b g e f d=>by
 obtain ⟨_,l,c,a⟩:=mem_ready.1 i;refine getD_set_true ?_;by_cases e1:j=k
 ·subst e1;rw [c] at b
  cases b;exact a e f d
 ·rw [getD_set_ne false e1] at g;exact h k o b g e f d
theorem Lt.first {h:Oper} (hi:ops[i]?=some h) (r:Region.noSelect ops=true) (F:∀ c a w,Q (.panic c) (a.put h.dst v) w→Q (.panic c) a w) (M:Wts ops late i) (K:late i=false) :
  ∀ (n:Nat) (L:Array Bool) (a:Act) (w:World),Clo ops L→(∀ j g,ops[j]?=some g→j≠i→L.getD j true=false→(∀ e∈g.after,Region.binds .any e=true→e.on≠i)→h.apart ops g=true) →
   i∈Region.ready .any ops L→YieldsIf P ops S h v a→S w→Lt P ops Q S late n (L.setIfInBounds i true) (a.put h.dst v) w→Lt P ops Q S late (n+1) L a w:=by
 intro n;induction n with
 | zero =>
  intro L a w _ _ hr y l H;refine ⟨fun h0=>absurd hr (by rw [h0];simp),fun j o=>?_⟩;by_cases e:j=i
  ·subst e;exact y.wpOp hi l ⟨fun _=>l,H⟩
  ·have h1:=ready_mono o e;rw [H.1] at h1
   cases h1
 | succ n ih =>
  intro L a w C D hr y l H;refine ⟨fun h0=>absurd hr (by rw [h0];simp),fun j o=>?_⟩;by_cases e:j=i
  ·subst e;exact y.wpOp hi l ⟨fun _=>l,H⟩
  ·obtain ⟨t,g,d,f⟩:=mem_ready.1 o;have m:=getD_apart (mem_ready.1 hr).1
   have A:∀ x∈g.after,Region.binds .any x=true→x.on≠i:=fun x N G B=>by
    have:=f x N G;rw [B,m] at this
    cases this
   have p:late j=false:=by
    cases hl:late j with
    | false=>rfl
    | true =>
     have:=wt_came C 8 j (M j g d hl) (fun o2 s=>by rw [d] at s;cases s;exact f);rw [m] at this
     cases this
   have h2:=wpOp_putIf (S:=S) d (D j g d e t A) (fun cs b=>Region.noSelect_spec r i h cs b hi) (fun cs b=>Region.noSelect_spec r j g cs b d) F y (H.2 j (ready_mono o e));refine wpOp_mono (fun E w' h3=>⟨fun _=>h3.2.1 p,ih (L.setIfInBounds j true) E w' (clo_set C o) (fun k ok J z u q=>D k ok J z ?_ q) (ready_mono hr (Ne.symm e)) h3.1 (h3.2.1 p) ?_⟩) h2
   ·by_cases ejk:j=k
    ·subst ejk;exact t
    ·rwa [getD_set_ne true ejk] at u
   ·rw [Array.setIfInBounds_comm _ _ e];exact h3.2.2
theorem Lt.take {b:Oper} (hi:ops[i]?=some b) (e:Region.noSelect ops=true) (j:cloB ops L=true) (l:wtsB ops late i=true) (d:late i=false)
  (k:Region.free .any ops L i=true) (hr:(Region.ready .any ops L).contains i=true) (f:∀ c a w,Q (.panic c) (a.put b.dst v) w→Q (.panic c) a w) (m:YieldsIf P ops S b v a) (g:S w)
  (h:Lt P ops Q S late n (L.setIfInBounds i true) (a.put b.dst v) w):Lt P ops Q S late (n+1) L a w :=
 Lt.first hi e f (wts_of l) d n L a w (clo_of j) (Region.free_spec hi k) (by simpa using hr) m g h
theorem Lt.one (hr:Region.ready .any ops L=[i]) (hi:ops[i]?=some o) (hg:o.guard=none)
  (h:Oper.wp P o a w (fun c w'=>(late i=false→S w')∧Lt P ops Q S late n (L.setIfInBounds i true) c w') Q):Lt P ops Q S late (n+1) L a w:=by
 refine ⟨fun h0=>(by rw [hr] at h0;cases h0),fun j b=>?_⟩;rw [hr] at b;obtain rfl:j=i:=by simpa using b
 unfold wpOp;simp only [hi];rw [if_pos (by simp [Region.wanted,hg])];exact Or.inl h
theorem Lt.done (hr:Region.ready .any ops L=[]) (h:Q .normal a w):Lt P ops Q S late n L a w:=by
 cases n with
 | zero=>exact ⟨hr,h⟩
 | succ n=>exact ⟨fun _=>h,fun i hi=>(by rw [hr] at hi;cases hi)⟩
theorem Jz (b:P.follows .mixedOrders=true) (h:Lt P ops Q S late ops.size (Array.replicate ops.size false) a w.drew):(Code.region c ops true).wp P Q a w :=
 wp_region_any b (Lt.any _ _ _ _ h)
theorem Qag {K:Act→World→Prop} {R:Ending→World→Prop} (f:FuncId) (args:Array Value) (b:(execOp a.eval o).run P w=.ok (.enter f args) w) (c:Calls P f args w R)
  (h:∀ e w',R e w'→∃ v,e=.returned v∧K (a.put o.dst v) w'):Oper.wp P o a w K Q:=by
 unfold Oper.wp;rw [b,Oper.upon_enter];refine c.mono fun e w' d=>?_;obtain ⟨v,rfl,g⟩:=h e w' d;exact g
theorem Zw {w':World} {K:Act→World→Prop} (b:(execOp a.eval o).run P w=.ok .skip w') (h:K (a.put o.dst undef) w'):Oper.wp P o a w K Q:=by
 unfold Oper.wp;rw [b];exact h
end
section
variable {P:Program} {ops:Array Oper} {Q:Exit→Act→World→Prop} {S:World→Prop} {late:Nat→Bool} {n:Nat} {L:Array Bool} {a:Act} {w:World} {oi:Oper}
theorem Lk (i:Nat) (v:Value) (hS:S w) {Z:Prop} (k:Z) (hi:ops[i]?=some oi:=by rfl) (hns:Region.noSelect ops=true:=by kernel_rfl) (hc:cloB ops L=true:=by kernel_rfl) (hw:wtsB ops late i=true:=by kernel_rfl) (hli:late i=false:=by rfl) (hf:Region.free .any ops L i=true:=by kernel_rfl) (hr:(Region.ready .any ops L).contains i=true:=by kernel_rfl) (hQ:∀ c a w,Q (.panic c) (a.put oi.dst v) w→Q (.panic c) a w:=by exact fun _ _ _ h=>h) (hy:YieldsIf P ops S oi v a:=by exact Or.inl ⟨by rfl,by (intro w' hSw;(try dsimp only at hSw);go_simp)⟩) (h:Z→Lt P ops Q S late n (L.setIfInBounds i true) (a.put oi.dst v) w:=by (intro z;(try simp only [Ap]);exact z)):Lt P ops Q S late (n+1) L a w:=Lt.take hi hns hc hw hli hf hr hQ hy hS (h k)
theorem Lkd (i:Nat) (v:Value) (hS:S w) {Z:Prop} (k:Z) (hi:ops[i]?=some oi:=by rfl) (hns:Region.noSelect ops=true:=by kernel_rfl) (hc:cloB ops L=true:=by kernel_rfl) (hw:wtsB ops late i=true:=by kernel_rfl) (hli:late i=false:=by rfl) (hf:Region.free .any ops L i=true:=by kernel_rfl) (hr:(Region.ready .any ops L).contains i=true:=by kernel_rfl) (hQ:∀ c a w,Q (.panic c) (a.put oi.dst v) w→Q (.panic c) a w:=by exact fun _ _ _ h=>h) (hy:YieldsIf P ops S oi v a:=by exact Or.inl ⟨by rfl,by (intro w' hSw;(try dsimp only at hSw);go_simp <;> decide)⟩) (h:Z→Lt P ops Q S late n (L.setIfInBounds i true) (a.put oi.dst v) w:=by (intro z;(try simp only [Ap]);exact z)):Lt P ops Q S late (n+1) L a w:=Lt.take hi hns hc hw hli hf hr hQ hy hS (h k)
end
end Go.Proofs.YtnpboeodhpenmaaGreatDoor
