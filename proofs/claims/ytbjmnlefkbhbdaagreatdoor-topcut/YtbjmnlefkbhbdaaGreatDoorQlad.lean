/- A part of it. -/
import Derived.Test.YtbjmnlefkbhbdaaGreatDoorQlaa
import Derived.Deep.CutBlock
import Derived.Laws.AppendOwnNone
import Derived.Laws.CopyOwn
set_option maxRecDepth 100000
set_option maxHeartbeats 40000000
namespace Go.Proofs.YtbjmnlefkbhbdaaGreatDoor
open Go.RowKit
variable {c w:World} {zs:List Int} {base g m n size:Nat} {a:Option Addr} {v:Value} {e:TypeId}
def Row (w:World) (a:Option Addr) (zs:List Int):Prop :=
 ∀ i (h:i<zs.length),∃ b off,a=Ad b off∧At w b (off+i) (I zs[i])
theorem Row.kept (h:Row w a zs) (hb:Bl w c):Row c a zs:=fun i hi=>by
 obtain ⟨b,off,e,d⟩:=h i hi;exact ⟨b,off,e,Qa hb d⟩
def maskB (zs:List Int):Bool:=zs.all fun z=>decide (0≤z∧z≤15)
def sideB (n:Int):Bool:=decide (1≤n∧n≤8)
theorem Xe (n:Int) (w:World) :
  Cl 44 #[I n] w fun e w'=>e=.returned (.bool (sideB n))∧w'=w:=by
 go_enter Tryz.func44,Tryz.ntmps44;go_wp2
 all_goals
  go_ret;exact ⟨Qs (by rw [Bool.eq_iff_iff];simp_all [sideB] <;> omega),rfl⟩
theorem mask_at (h:maskB zs=false) (hp:∀ i (hi:i<zs.length),0≤zs[i]∧zs[i]≤15):False:=by
 have:maskB zs=true:=by
  simp only [maskB,List.all_eq_true,decide_eq_true_eq];intro z a;obtain ⟨i,hi,rfl⟩:=List.getElem_of_mem a;exact hp i hi
 rw [this] at h;exact Bool.noConfusion h
theorem Zm (W H:Int) (a:Option Addr) (d:Nat) (zs:List Int) (c:Value) (w:World) (q:sideB W=true) (p:sideB H=true) (hr:Row w a zs) (hl:(zs.length:Int)=W*H) :
  Cl 45 #[.agg #[I W,I H,.slice a zs.length d,c]] w fun e w'=>e=.returned (.bool (maskB zs))∧∃ o,w'=w.alloc o:=by
 have b1:1≤W∧W≤8:=by simpa [sideB] using q
 have b2:1≤H∧H≤8:=by simpa [sideB] using p
 have v:0≤W*H∧W*H≤64:=by
  have h1:W=1∨W=2∨W=3∨W=4∨W=5∨W=6∨W=7∨W=8:=γ;rcases h1 with rfl | rfl | rfl | rfl | rfl | rfl | rfl | rfl <;> omega
 have m:=Hd hr;clear hr;go_enter Tryz.func45,Tryz.ntmps45;go_wp2;go_loopg [17] zs.length (fun g j u=>∃ n:Nat,n≤zs.length∧g=zs.length - n∧j=I n∧(∀ i (hi:i<zs.length),i<n→0≤zs[i]∧zs[i]≤15)∧u=w.alloc (.cells #[I W,I H,.slice a zs.length d,c] 26))
 case atStart=>exact ⟨0,γ,rfl,rfl,fun i _ h=>by omega,rfl⟩
 case round =>
  obtain ⟨n,x,rfl,rfl,hp,rfl⟩:=hrel;have k:=Hd hp;clear hp;by_cases h1:n<zs.length
  ·obtain ⟨b,off,rfl,l⟩:=m.out n h1;have s:(n:Int)<(zs.length:Int):=γ;have y:(0:Int)≤(n:Int):=γ;have t:(w.alloc (.cells #[I W,I H,.slice (Ad b off) zs.length d,c] 26)).cell? ⟨b,off+n,none⟩=some (I zs[n]):=Ql l;obtain ⟨z,r⟩:∃ z,z=zs[n]:=⟨_,rfl⟩;rw [← r] at t;clear l;by_cases g1:z<0
   ·have f:Hid (maskB zs=false):=by
     show maskB zs=false
     simp only [maskB,List.all_eq_false,decide_eq_true_eq];exact ⟨zs[n],Lm h1,γ⟩
    go_wp2;go_ret;exact ⟨by rw [f.out];rfl,_,rfl⟩
   ·by_cases g2:15<z
    ·have f:Hid (maskB zs=false):=by
      show maskB zs=false
      simp only [maskB,List.all_eq_false,decide_eq_true_eq];exact ⟨zs[n],Lm h1,γ⟩
     go_wp2;go_ret;exact ⟨by rw [f.out];rfl,_,rfl⟩
    ·go_wp2;go_roundg (zs.length - (n+1))
     case measure=>omega
     case rel =>
      refine ⟨n+1,γ,rfl,σ,fun i hi h=>?_,rfl⟩;by_cases e:i=n
      ·subst e;omega
      ·exact k.out i hi γ
  ·have s:¬ (n:Int)<(zs.length:Int):=γ
   have f:Hid (maskB zs=true):=by
    show maskB zs=true
    by_cases h:maskB zs=true
    ·exact h
    ·exact (mask_at (by simpa using h) (fun i hi=>k.out i hi γ)).elim
   go_wp2;go_ret;exact ⟨by rw [f.out];rfl,_,rfl⟩
def cellsB (W H:Int) (zs:List Int):Bool:=sideB W && sideB H && decide ((zs.length:Int)=W*H) && maskB zs
def shB (z k:Int):Int:=if k=0 then z else if k=1 then z / 2 else if k=2 then z / 4 else z / 8
def bitB (z k:Int):Bool:=decide (shB z k % 2=1)
theorem bit_eq (z k:Int) (h0:0≤z) (h1:z≤15) (k0:0≤k) (k3:k≤3):(bits BinOp.and IntKind.i64 (z / 2 ^ k.toNat) 1 == 1)=bitB z k:=by
 have b:z=0∨z=1∨z=2∨z=3∨z=4∨z=5∨z=6∨z=7∨z=8∨z=9∨z=10∨z=11∨z=12∨z=13∨z=14∨z=15:=γ;have a:k=0∨k=1∨k=2∨k=3:=γ;rcases b with rfl | rfl | rfl | rfl | rfl | rfl | rfl | rfl | rfl | rfl | rfl | rfl | rfl | rfl | rfl | rfl <;> rcases a with rfl | rfl | rfl | rfl <;> rfl
theorem inf3:(Tryz.prog.info? 3).map (fun i=>(i.zero,i.size,i.bytes))=some (some (I 0),1,8):=μ
def Sh (w:World) (g:Nat) (v0 v1 v2 v3:Value):Prop :=
 At w g 0 v0∧At w g 1 v1∧At w g 2 v2∧At w g 3 v3
theorem Sh.kept {v0 a b v3:Value} (h:Sh w g v0 a b v3) (hb:Bl w c):Sh c g v0 a b v3 :=
 ⟨Qa hb h.1,Qa hb h.2.1,Qa hb h.2.2.1,Qa hb h.2.2.2⟩
theorem Sh.lt {v0 a b v3:Value} (h:Sh w g v0 a b v3):g<w.heap.size:=bk h.1
theorem row_at (h:Row w a zs) (d:0<zs.length):∃ b off,a=Ad b off∧∀ j u,(zs.map (fun z=>I z))[j]?=some u→w.cell? ((⟨b,off,none⟩:Addr).add j)=some u:=by
 obtain ⟨b,off,rfl,_⟩:=h 0 d;refine ⟨b,off,rfl,fun j u f=>?_⟩
 have g:j<zs.length:=by
  have:=List.getElem?_eq_some_iff.1 f;simpa using this.1
 obtain ⟨l,i,e,k⟩:=h j g;simp at e;obtain ⟨rfl,rfl⟩:=e;have c:(⟨b,off,none⟩:Addr).add j=⟨b,off+j,none⟩:=by unfold Addr.add;split <;> simp_all
 rw [c,k];simp [g] at f;exact congrArg some f
def RowF (w:World) (base:Nat) (a:Option Addr) (zs:List Int):Prop :=
 ∀ i (h:i<zs.length),∃ b off,a=Ad b off∧base≤b∧At w b (off+i) (I zs[i])
theorem RowF.row (h:RowF w base a zs):Row w a zs:=fun i hi=>by
 obtain ⟨b,off,e,_,c⟩:=h i hi;exact ⟨b,off,e,c⟩
theorem RowF.kept (h:RowF w base a zs) (hb:Bl w c):RowF c base a zs:=fun i hi=>by
 obtain ⟨b,off,e,hl,d⟩:=h i hi;exact ⟨b,off,e,hl,Qa hb d⟩
theorem Xc {p a:Addr} {u:Value} (h:w.cell? a=some v) (b:a.block≠p.block):(w.setCell p u).cell? a=some v:=by
 have:=World.cell?_of_block (w:=w) (w':=w.setCell p u) (a:=a) (Below.heap_setCell w p u a.block b);exact this.trans h
theorem RowF.set (h:RowF w base a zs) {p:Addr} {u:Value} (hp:p.block<base):RowF (w.setCell p u) base a zs:=fun i hi=>by
 obtain ⟨b,off,e,hl,c⟩:=h i hi;exact ⟨b,off,e,hl,Xc c θ⟩
theorem RowF.low {c:Nat} (h:RowF w base a zs) (hl:c≤base):RowF w c a zs:=fun i hi=>by
 obtain ⟨b,off,e,hb,d⟩:=h i hi;exact ⟨b,off,e,γ,d⟩
theorem own_row (h:w.ownsRow base e size v n (zs.map (fun z=>I z))) (f:0<n) :
  ∃ g a,v=.slice (Az g) n a∧base≤g∧RowF w base (Az g) zs:=by
 have b:=h.1;rcases h.2 with ⟨_,h0⟩ | ⟨g,a,c,d,hb,_⟩
 ·omega
 ·subst d;refine ⟨g,a,rfl,hb,fun i hi=>⟨g,0,rfl,hb, ?_⟩⟩;have:=h.cellAt i (by simp at b;omega);simp [hi] at this;simpa using this
theorem Gl (w:World) (base:Nat) (a:Option Addr):RowF w base a []:=fun i hi=>by simp at hi
def bitAt (zs:List Int) (W x y k:Nat):Bool:=bitB (zs.getD (y*W+x) 0) k
def tk (zs:List Int) (W x y n:Nat):List T3:=((List.range n).filter (fun k=>bitAt zs W x y k)).map (fun (k:Nat)=>((x:Int),(y:Int),(k:Int)))
def tx (zs:List Int) (W y n:Nat):List T3:=(List.range n).flatMap (fun x=>tk zs W x y 4)
def ty (zs:List Int) (W n:Nat):List T3:=(List.range n).flatMap (fun y=>tx zs W y W)
theorem tk_zero (zs:List Int) (W x y:Nat):tk zs W x y 0=[]:=by simp [tk]
theorem tx_zero (zs:List Int) (W y:Nat):tx zs W y 0=[]:=by simp [tx]
theorem tk_yes {W x y:Nat} (h:bitAt zs W x y n=true):tk zs W x y (n+1)=tk zs W x y n ++ [((x:Int),(y:Int),(n:Int))]:=by
 simp [tk,List.range_succ,List.filter_append,h]
theorem tk_no {W x y:Nat} (h:bitAt zs W x y n=false):tk zs W x y (n+1)=tk zs W x y n:=by
 simp [tk,List.range_succ,List.filter_append,h]
theorem tx_succ (zs:List Int) (W y n:Nat):tx zs W y (n+1)=tx zs W y n ++ tk zs W n y 4:=by
 simp [tx,List.range_succ,List.flatMap_append]
theorem ty_succ (zs:List Int) (W n:Nat):ty zs W (n+1)=ty zs W n ++ tx zs W n W:=by
 simp [ty,List.range_succ,List.flatMap_append]
theorem tk_len (zs:List Int) (W x y n:Nat):(tk zs W x y n).length≤n:=by
 unfold tk;rw [List.length_map];exact Nt (List.length_filter_le _ _) ν
theorem tx_len (zs:List Int) (W y n:Nat):(tx zs W y n).length≤4*n:=by
 induction n with
 | zero=>simp [tx]
 | succ n ih =>
  rw [tx_succ,List.length_append];have:=tk_len zs W n y 4;omega
theorem Vi (zs:List Int) (W n:Nat) (a:W≤8):(ty zs W n).length≤32*n:=by
 induction n with
 | zero=>simp [ty]
 | succ n ih =>
  rw [ty_succ,List.length_append];have:=tx_len zs W n W;omega
def flatV (l:List T3):List Value:=l.flatMap fun t=>[I t.1,I t.2.1,I t.2.2]
theorem Uy (l m:List T3):flatV (l ++ m)=flatV l ++ flatV m:=by simp [flatV,List.flatMap_append]
theorem Jq (w:World) (a b c:Int):∀ j u,([I a,I b,I c])[j]?=some u→(w.alloc (.cells #[I a,I b,I c] 44)).cell? ((⟨w.heap.size,0,none⟩:Addr).add j)=some u:=by
 intro j u d;match j,d with
 | 0,d=>simp at d;subst d;simp [go_sem,Addr.add]
 | 1,d=>simp at d;subst d;simp [go_sem,Addr.add]
 | 2,d=>simp at d;subst d;simp [go_sem,Addr.add]
theorem Qh {w':World} {c:List Value} (h:w.ownsRow base e size v n c) (hb:Bl w w'):w'.ownsRow base e size v n c:=by
 refine ⟨h.1, ?_⟩;rcases h.2 with ⟨h1,h2⟩ | ⟨g,a,b,h1,h2,h3,h4⟩
 ·exact .inl ⟨h1,h2⟩
 ·refine .inr ⟨g,a,b,h1,h2, ?_,h4⟩
  have hg:g<w.heap.size:=by
   rcases Nat.lt_or_ge g w.heap.size with h | h
   ·exact h
   ·rw [Array.getElem?_eq_none h] at h3;cases h3
  rw [hb.block g hg];exact h3
theorem Qn {d:List Value} (h:w.ownsRow base e size v n d):∀ k,v.ownBlock=some k→base≤k:=by
 intro k a;rcases h.2 with ⟨rfl,_⟩ | ⟨g,b,c,rfl,h2,_⟩
 ·simp [Value.ownBlock] at a
 ·simp [Value.ownBlock] at a;omega
theorem inf23:(Tryz.prog.info? 44).map (fun i=>(i.zero,i.size,i.bytes))=some (some (.agg #[I 0,I 0,I 0]),3,24):=μ
theorem mul_one_any (n:Nat) (h:n≤1000000) (w:World):Cl 88 #[.int .u64 1,.int .u64 (n:Int)] w fun e w'=>e=.returned (.tuple #[.int .u64 0,.int .u64 (n:Int)])∧w'=w:=by
 have:=Tryz.bits_Mul 1 n γ γ w;have e1:1*n / 18446744073709551616=0:=γ;have e2:1*n % 18446744073709551616=n:=γ;rw [e1,e2] at this;exact this
def rp (z:Int) (m n:Nat):List Value:=List.replicate m (I z) ++ List.replicate (n - m) (I 0)
theorem rp_len (z:Int) (h:m≤n):(rp z m n).length=n:=by simp [rp];omega
theorem rp_splice (z:Int) {c:Nat} (_h:m+c≤n):splice (rp z m n) m (List.replicate c (I z))=rp z (m+c) n:=by
 unfold splice rp
 have e1:List.take m (List.replicate m (I z) ++ List.replicate (n - m) (I 0))=List.replicate m (I z):=by
  rw [List.take_append_of_le_length ν];simp
 have e2:List.drop (m+(List.replicate c (I z)).length) (List.replicate m (I z) ++ List.replicate (n - m) (I 0))=List.replicate (n - (m+c)) (I 0):=by
  rw [List.drop_append,List.drop_eq_nil_of_le ν,List.nil_append,List.drop_replicate];congr 1
  simp;omega
 rw [e1,e2,← List.append_assoc,List.replicate_append_replicate]
theorem rp_cell {z:Int} (h:w.heap[g]?=some (.cells (rp z m n).toArray 3 (0,0))) {c:Nat} (f:c≤m):∀ j v,(List.replicate c (I z))[j]?=some v→w.cell? ((⟨g,0,none⟩:Addr).add j)=some v:=by
 intro j v b
 have a:j<c:=by
  rcases Nat.lt_or_ge j c with a | a
  ·exact a
  ·rw [List.getElem?_eq_none (by simpa using a)] at b
   cases b
 have d:v=I z:=by
  rw [List.getElem?_eq_getElem (by simpa using a)] at b;simpa using b.symm
 subst d;have e:(⟨g,0,none⟩:Addr).add j=⟨g,j,none⟩:=by unfold Addr.add;split <;> simp_all
 rw [e];simp [World.cell?,h,rp];rw [List.getElem?_append_left ψ];rw [List.getElem?_replicate,if_pos γ]
theorem rep_one (c:Nat) (z:Int):∀ v∈List.replicate c (I z),v.oneCell'=true:=by
 intro v a;rw [List.eq_of_mem_replicate a];rfl
theorem made_row (f:w.ownsRow base 3 1 (.slice (Az g) n n) n (madeCells #[I 0] n).toList):w.heap[g]?=some (.cells (List.replicate n (I 0)).toArray 3 (0,0)):=by
 rcases f.2 with ⟨e,_⟩ | ⟨h,c,a,e,h2,h3,h4,h5,h6,b⟩
 ·cases e
 ·simp only [Value.slice.injEq,Option.some.injEq,Addr.mk.injEq,and_true,true_and] at e;obtain ⟨rfl,rfl⟩:=e
  have d:a.toList=List.replicate n (I 0):=by
   rw [Nat.mul_one,List.take_of_length_le (by rw [Array.length_toList];omega)] at b;rw [b];apply List.ext_getElem
   ·simp [madeCells]
   ·intro i h1 h2;simp [madeCells,Nat.mod_one]
  rw [h3,← d]
theorem repeat_any (z:Int) (D n:Nat) (w:World) (hn:n≤1000000) (R:At w D 0 (I z)) :
  Cl 42 #[.slice (Az D) 1 1,I (n:Int)] w fun e w'=>e=.returned (.slice (Az w.heap.size) n n)∧w'.heap[w.heap.size]?=some (.cells (rp z n n).toArray 3 (0,0))∧Bl w w':=by
 obtain ⟨i3,o,B,p,C⟩:=info_parts inf3;have f:=H4 o B p C;have A:(Tryz.prog.info? 3).map (fun i=>i.size)=some 1:=by rw [o];simp [p]
 have r:=Hd A;clear o B p C A;have n0:(0:Int)≤(n:Int):=γ;have n1:(n:Int)≤1000000:=γ;go_enter Tryz.func42,Tryz.ntmps42
 go_wp2_with (first
  | (go_at_call 88;refine (mul_one_any n hn _).mono ?_;rintro e w' ⟨rfl,U⟩;have N:=U.symm;clear U;subst N)
  | (at_make;refine wpList_make_full _ rfl (.tmp 29) (.tmp 29) 23 rfl w.heap.size 3 i3 (I 0) 1 Tryz.underlying23 f.out.1 f.out.2.1 f.out.2.2.1 .i64 .i64 _ _ n rfl rfl rfl rfl ?b2 ?b3 ?b4 ?mk))
 case b2 =>
  rw [f.out.2.2.2];omega
 case b3 =>
  unfold maxLen;omega
 case b4=>exact Nr _
 case mk =>
  intro G T hg;have b:Bl w G:=(Below.refl _ _).grown hg (Nr _) (fun k h=>by cases h);have l:G.heap[w.heap.size]?=some (.cells (rp z 0 n).toArray 3 (0,0)):=by simpa [rp] using made_row T
  clear T hg;have H:=H2 b l;have s:At G D 0 (I z):=Qa b R;have q:=Hd s;clear b l R s;obtain ⟨c,a⟩:∃ c,c=Nat.min 1 n:=⟨_,rfl⟩;have L:c≤1:=by rw [a];exact Nat.min_le_left _ _
  have t:c≤n:=by rw [a];exact Nat.min_le_right _ _
  have u:n=0∨c=1:=by
   rcases Nat.eq_zero_or_pos n with h | h
   ·exact Or.inl h
   ·exact Or.inr (by rw [a];exact Nat.min_eq_left h)
  have K:Hid (0<(List.replicate c (I z)).length→(some (⟨w.heap.size,0,none⟩:Addr))=Az w.heap.size∧∃ ad,(some (⟨D,0,none⟩:Addr))=some ad∧∀ j v,(List.replicate c (I z))[j]?=some v→G.cell? (ad.add j)=some v):=fun _=>⟨rfl,_,rfl,fun j v F=>by
   have x:j<c:=by
    rcases Nat.lt_or_ge j c with x | x
    ·exact x
    ·rw [List.getElem?_eq_none (by simpa using x)] at F
     cases F
   obtain rfl:j=0:=γ;rw [List.getElem?_replicate,if_pos x] at F;rw [← F];simpa [Addr.add] using q.out⟩
  go_wp2_with (refine wpList_copy_splice γ2 (.tmp 31) (.tmp 32) 23 23 γ2 3 Tryz.underlying23 r.out (Az w.heap.size) (Az D) n n 1 1 γ2 γ2 w.heap.size 0 (rp z 0 n) 3 H.out.2 (List.replicate c (I z)) (by rw [List.length_replicate];exact a) K.out (by rw [List.length_replicate,rp_len z (Nat.zero_le n)];omega) (rep_one c z) w.heap.size w H.out.1 (Nr _) ?_;intro O d g)
  have P:Hid (O.heap[w.heap.size]?=some (.cells (rp z c n).toArray 3 (0,0))∧Bl w O):=by
   have:=d.out;rw [rp_splice z γ,Nat.zero_add] at this;exact ⟨this,g⟩
  have J:=Hd a;clear d g H q a;go_loopg [8] n (fun X s8 V=>∃ m:Nat,m≤n∧n - m≤X∧s8=I (m:Int)∧(n=0∨1≤m)∧V.heap[w.heap.size]?=some (.cells (rp z m n).toArray 3 (0,0))∧Bl w V)
  case atStart=>exact ⟨c,t,γ,by rw [J.out],u.imp id (fun h=>by omega),P.out⟩
  case round =>
   clear t u L P;obtain ⟨m,hm,Y,rfl,a6,hr,Q⟩:=hrel;have E:=H2 hr Q;clear hr Q;by_cases h1:m<n
   ·have i1:(m:Int)<(n:Int):=γ;have i0:(0:Int)≤(m:Int):=γ;have i2:(m:Int)≤(n:Int):=γ;obtain ⟨k,y⟩:∃ k,k=Nat.min m (n - m):=⟨_,rfl⟩;have M:k≤m:=by rw [y];exact Nat.min_le_left _ _
    have Z:k≤n - m:=by rw [y];exact Nat.min_le_right _ _
    have a2:1≤k:=by rw [y];exact Nat.le_min.2 ⟨γ,γ⟩
    have a7:¬ n=m:=γ;have W:=Hd y;clear y;go_wp2;go_region_held3 (fun _=>True) (trivial) (((refine step_copy_splice γ2 (.tmp 41) (.tmp 44) 23 23 γ2 3 Tryz.underlying23 r.out (Ad w.heap.size m) (Az w.heap.size) (n - m) (n - m) m n γ2 γ2 w.heap.size m (rp z m n) 3 E.out.1 (List.replicate k (I z)) (by rw [List.length_replicate];exact W.out) (fun _=>⟨rfl,_,rfl,rp_cell E.out.1 M⟩) (by rw [List.length_replicate,rp_len z hm];omega) (rep_one k z) w.heap.size w (Qe E.out.2) (Nr _) ?_;intro O d g)))
    all_goals
     go_wp2;go_roundg (n - (m+k))
     case measure=>omega
     case rel =>
      refine ⟨m+k,γ,γ,(congrArg _ (by first | omega | (rw [IntKind.wrap_i64];omega))),Or.inr γ, ?_,g⟩;have:=d.out;rw [rp_splice z γ] at this;exact this
   ·have i1:¬ (m:Int)<(n:Int):=γ;obtain rfl:m=n:=γ;go_wp2;go_ret;exact ⟨rfl,E.out⟩
end Go.Proofs.YtbjmnlefkbhbdaaGreatDoor
