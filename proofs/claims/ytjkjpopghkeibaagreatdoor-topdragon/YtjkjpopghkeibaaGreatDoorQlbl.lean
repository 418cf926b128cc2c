/- A part of it. -/
import Derived.Test.YtjkjpopghkeibaaGreatDoorQlbe
import Derived.Test.YtjkjpopghkeibaaGreatDoorQlbc
import Derived.Test.YtjkjpopghkeibaaGreatDoorQlbk
set_option maxRecDepth 100000
set_option maxHeartbeats 40000000
namespace Go.Proofs.YtjkjpopghkeibaaGreatDoor
open Go.RowKit
theorem rankCompare (pb:Nat) (a b:Int) (p q:Bool) (r:Int) (w:World) (hr:r=if p=true then -1 else if q=true then 1 else 0)
  (h1:∀ W:World,Bl w W→Rt 83 #[I b,I a,.pointer (Az pb)] W (.bool p))
  (h2:∀ W:World,Bl w W→Rt 83 #[I a,I b,.pointer (Az pb)] W (.bool q)) :
  Rt 67 #[.func (.func 83) #[] #[.pointer (Az pb)],I a,I b] w (I r):=by
 have i:=Hd h1;have k:=Hd h2;have h:=Hd hr;clear h1 h2 hr
 cases p
 ·cases q
  ·have j:=Hd h.out;clear h;go_enter Tryz.func67,Tryz.ntmps67
   go_wp2_with (first
    | (go_at_call 83;refine (i.out _ (Qe _)).mono ?_;rintro e w1 ⟨rfl,c⟩;have d:=Hd c;clear c i)
    | (go_at_call 83;refine (k.out _ d.out).mono ?_;rintro e l ⟨rfl,f⟩;have g:=Hd (Qc d.out f);clear f))
   go_ret;exact ⟨Jp j.out.symm,g.out⟩
  ·have j:=Hd h.out;clear h;go_enter Tryz.func67,Tryz.ntmps67
   go_wp2_with (first
    | (go_at_call 83;refine (i.out _ (Qe _)).mono ?_;rintro e w1 ⟨rfl,c⟩;have d:=Hd c;clear c i)
    | (go_at_call 83;refine (k.out _ d.out).mono ?_;rintro e l ⟨rfl,f⟩;have g:=Hd (Qc d.out f);clear f))
   go_ret;exact ⟨Jp j.out.symm,g.out⟩
 ·have j:=Hd h.out;clear h;go_enter Tryz.func67,Tryz.ntmps67;go_wp2_with (go_at_call 83;refine (i.out _ (Qe _)).mono ?_;rintro e w1 ⟨rfl,c⟩;have d:=Hd c;clear c)
  go_ret;exact ⟨Jp j.out.symm,d.out⟩
end Go.Proofs.YtjkjpopghkeibaaGreatDoor
namespace Go.Proofs
open Go.Shelf
def Tryz.sortCrease_ren:Go.Shelf.Ren:=⟨fun | 6=>78 | 15=>111 | 14=>127 | 28=>159 | 29=>160 | 20=>178 | 21=>179 | 22=>180 | 23=>181 | 24=>182 | 25=>183 | 26=>184 | 27=>185 | 46=>221 | 47=>212 | 48=>213 | 49=>222 | 50=>223 | 57=>242 | n=>n,fun | 22=>23 | 24=>49 | 25=>147 | 3=>3 | 39=>176 | 0=>0 | 53=>229 | 55=>231 | 4=>4 | 46=>223 | 45=>222 | 50=>154 | 5=>5 | 9=>9 | 66=>268 | 70=>272 | 76=>286 | 77=>287 | n=>n,fun | n=>n⟩
theorem Tryz.sortCrease:Go.Proofs.SlLaysF0.n6 Tryz.prog Tryz.sortCrease_ren:={
 mixed:=by kernel_rfl
 f6:=⟨Tryz.f78.name,by decide,Tryz.func78.trans (congrArg some (by kernel_rfl))⟩
 f14:=⟨Tryz.f127.name,by decide,Tryz.func127.trans (congrArg some (by kernel_rfl))⟩
 f15:=Tryz.func111.trans (congrArg some (by kernel_rfl))
 f20:=⟨Tryz.f178.name,by decide,Tryz.func178.trans (congrArg some (by kernel_rfl))⟩
 f21:=⟨Tryz.f179.name,by decide,Tryz.func179.trans (congrArg some (by kernel_rfl))⟩
 f22:=⟨Tryz.f180.name,by decide,Tryz.func180.trans (congrArg some (by kernel_rfl))⟩
 f23:=⟨Tryz.f181.name,by decide,Tryz.func181.trans (congrArg some (by kernel_rfl))⟩
 f24:=⟨Tryz.f182.name,by decide,Tryz.func182.trans (congrArg some (by kernel_rfl))⟩
 f25:=⟨Tryz.f183.name,by decide,Tryz.func183.trans (congrArg some (by kernel_rfl))⟩
 f26:=⟨Tryz.f184.name,by decide,Tryz.func184.trans (congrArg some (by kernel_rfl))⟩
 f27:=⟨Tryz.f185.name,by decide,Tryz.func185.trans (congrArg some (by kernel_rfl))⟩
 f28:=Tryz.func159.trans (congrArg some (by kernel_rfl))
 f29:=Tryz.func160.trans (congrArg some (by kernel_rfl))
 f46:=⟨Tryz.f221.name,by decide,Tryz.func221.trans (congrArg some (by kernel_rfl))⟩
 f47:=Tryz.func212.trans (congrArg some (by kernel_rfl))
 f48:=Tryz.func213.trans (congrArg some (by kernel_rfl))
 f49:=⟨Tryz.f222.name,by decide,Tryz.func222.trans (congrArg some (by kernel_rfl))⟩
 f50:=⟨Tryz.f223.name,by decide,Tryz.func223.trans (congrArg some (by kernel_rfl))⟩
 f57:=⟨Tryz.f242.name,by decide,Tryz.func242.trans (congrArg some (by kernel_rfl))⟩
 t0:=Tryz.underlying0
 a0:=Tryz.isAgg0
 z0:=Tryz.sizeOf0
 v0:=Tryz.zeroValue0
 t3:=Tryz.underlying3
 a3:=Tryz.isAgg3
 z3:=Tryz.sizeOf3
 v3:=Tryz.zeroValue3
 t4:=Tryz.underlying4
 a4:=Tryz.isAgg4
 z4:=Tryz.sizeOf4
 v4:=Tryz.zeroValue4
 t5:=Tryz.underlying5
 a5:=Tryz.isAgg5
 z5:=Tryz.sizeOf5
 v5:=Tryz.zeroValue5
 t9:=Tryz.underlying9
 a9:=Tryz.isAgg9
 z9:=Tryz.sizeOf9
 v9:=Tryz.zeroValue9
 t22:=Tryz.underlying23
 a22:=Tryz.isAgg23
 z22:=Tryz.sizeOf23
 v22:=Tryz.zeroValue23
 t25:=Tryz.underlying147
 a25:=Tryz.isAgg147
 z25:=Tryz.sizeOf147
 v25:=Tryz.zeroValue147
 t39:=Tryz.underlying176
 a39:=Tryz.isAgg176
 z39:=Tryz.sizeOf176
 v39:=Tryz.zeroValue176
 t45:=Tryz.underlying222
 a45:=Tryz.isAgg222
 z45:=Tryz.sizeOf222
 v45:=Tryz.zeroValue222
 t46:=Tryz.underlying223
 a46:=Tryz.isAgg223
 z46:=Tryz.sizeOf223
 v46:=Tryz.zeroValue223
 t50:=Tryz.underlying154
 a50:=Tryz.isAgg154
 z50:=Tryz.sizeOf154
 v50:=Tryz.zeroValue154
 t53:=Tryz.underlying229
 a53:=Tryz.isAgg229
 z53:=Tryz.sizeOf229
 v53:=Tryz.zeroValue229
 t55:=Tryz.underlying231
 a55:=Tryz.isAgg231
 z55:=Tryz.sizeOf231
 v55:=Tryz.zeroValue231
 t66:=Tryz.underlying268
 a66:=Tryz.isAgg268
 z66:=Tryz.sizeOf268
 v66:=Tryz.zeroValue268
 t70:=Tryz.underlying272
 a70:=Tryz.isAgg272
 z70:=Tryz.sizeOf272
 v70:=Tryz.zeroValue272
 t76:=Tryz.underlying286
 a76:=Tryz.isAgg286
 z76:=Tryz.sizeOf286
 v76:=Tryz.zeroValue286
 t77:=Tryz.underlying287
 a77:=Tryz.isAgg287
 z77:=Tryz.sizeOf287
 v77:=Tryz.zeroValue287 }
end Go.Proofs
namespace Go.Proofs.YtjkjpopghkeibaaGreatDoor
open Go.RowKit Go.Shelf Go.Lib
open Go.Sort hiding Below
def cmpX (x y:C5):Int:=cmpE x.1.1 x.1.2.1 x.1.2.2.1 x.1.2.2.2 y.1.1 y.1.2.1 y.1.2.2.1 y.1.2.2.2
theorem cmpX_lt (x y:C5):ltOf cmpX x y=true↔ltE x y=true:=by
 unfold ltOf cmpX ltE;rw [decide_eq_true_eq,← Vg]
theorem cmpX_not (x y:C5):ltOf cmpX x y=false↔ltE x y=false:=by
 rw [← Bool.not_eq_true,cmpX_lt,Bool.not_eq_true]
theorem ltE_iff (x y:C5):ltE x y=true↔x.1.1<y.1.1∨(x.1.1=y.1.1∧(x.1.2.1<y.1.2.1∨(x.1.2.1=y.1.2.1∧(x.1.2.2.1<y.1.2.2.1∨(x.1.2.2.1=y.1.2.2.1∧x.1.2.2.2<y.1.2.2.2))))):=by
 have h:=Ku (x.1,0) (y.1,0);unfold ltC at h;unfold ltE;simp at h;rw [h]
theorem swoX:SWO (ltOf cmpX):={
 irrefl:=fun x=>by rw [cmpX_not,← Bool.not_eq_true,ltE_iff];omega
 trans:=fun x y z h1 h2=>by
  rw [cmpX_lt,ltE_iff] at *;omega
 ntrans:=fun x y z h1 h2=>by
  rw [cmpX_not,← Bool.not_eq_true,ltE_iff] at *;omega }
theorem compareX_gd (a b c d k p q r s l:Int) (w:World) :
  Cl 79 #[.agg #[I a,I b,I c,I d,I k],.agg #[I p,I q,I r,I s,I l]] w fun e w'=>e=.returned (I (cmpE a b c d p q r s))∧GD w w':=by
 go_enter Tryz.func79,Tryz.ntmps79;go_wp2_with (go_at_call 60;refine (Qbg _ _ _ _ _ _ _ _ _).mono ?_;rintro e w8 ⟨rfl,hg⟩;have f:=Hd (Vi (Jy (Jy (Zd w))) hg);clear hg)
 go_ret;refine ⟨rfl, ?_⟩;with_reducible repeat' (first | exact f.out | refine Jy ?_ | refine Yq ?_)
theorem closureX_gd (x y:C5) (W:World):Cl 79 #[.agg (encC x).toArray,.agg (encC y).toArray] W fun e w'=>e=.returned (I (cmpX x y))∧∃ q os',w'=grow (W.drewN q) os':=compareX_gd _ _ _ _ _ _ _ _ _ _ W
theorem holdsX {w:World} {base g n c:Nat} {a:List C5} (h:w.ownsRow base 49 5 (.slice (Az g) n c) n (flatJ a)) (i:n=a.length):HoldsK encC 5 w g 0 a.toArray:=by
 subst i;intro j b;rw [size_flatK] at b;simp only [List.size_toArray] at b;rw [get_flatK _ _ _ _ (by simpa using b)];refine ⟨?_, ?_⟩
 ·have f:=h.cellAt j γ;rw [Nat.zero_add,f,flatJ_enc,flatC_at a j b];simp
 ·rcases h.2 with ⟨h1,_⟩ | ⟨k,d,e,h1,_,h3,_⟩
  ·cases h1
  ·cases h1;simp [World.frozen?,h3]
theorem sortCrease_any (w:World) (base c8:Nat) (n:Option Addr) (a:List C5) (h:w.ownsRow base 49 5 (.slice n a.length c8) a.length (flatJ a)) (B:a.length<4611686018427387904) :
  Cl 78 #[.slice n a.length c8,.func (.func 79) #[] #[]] w fun e w'=>e=.returned (.tuple #[])∧∃ Bs',Bs'.Perm a∧Bs'.Pairwise (fun x y=>ltE y x=false)∧JRow w' n Bs'∧w.grownBy w' (Value.slice n a.length c8).ownBlock:=by
 by_cases h0:a=[]
 ·subst h0;have o:=AnyF.slices_SortFunc_none Tryz.sortCrease n c8 (.func (.func 79) #[] #[]) w;refine o.mono ?_;rintro e w' ⟨rfl,rfl⟩;exact ⟨rfl,[],List.Perm.refl _,List.Pairwise.nil,fun i hi=>by simp at hi,⟨rfl,rfl,rfl,Nr _,fun _ _ _=>rfl⟩⟩
 ·have t:0<a.length:=List.length_pos_iff.2 h0
  obtain ⟨g,rfl⟩:∃ g,n=Az g:=by
   rcases h.2 with ⟨h1,h2⟩ | ⟨g,u,z,h1,_⟩
   ·omega
   ·cases h1;exact ⟨g,rfl⟩
  have r:=holdsX h rfl;have hg:g<w.heap.size:=(h.lt g rfl).2;have d:=AnyQ.slices_SortFunc Tryz.sortCrease 5 Tryz.isAgg49 Tryz.sizeOf49 encC (fun _=>rfl) (fun x v hv=>by simp [encC] at hv;rcases hv with rfl | rfl | rfl | rfl | rfl <;> rfl) cmpX swoX 79 #[] g 0 c8 a.toArray w (enters_of Tryz.func79 η rfl) (fun _ _ _ _ x y=>closureX_gd x y _) r hg (by simpa using B);change Cl 78 _ _ _ at d
  rw [List.size_toArray] at d;refine d.mono ?_;rintro e w' ⟨rfl,b,m,os,hp,hs,rfl⟩;have l:b.size=a.length:=by simpa using hp.1
  refine ⟨rfl,b.toList, ?_, ?_, ?_,grown_sortedC b⟩
  ·have h3:=hp.2.2
   have e1:(b.extract 0 a.length).toList=b.toList:=by
    rw [← l];simp
   have e2:(a.toArray.extract 0 a.length).toList=a:=ξ;rw [e1,e2] at h3;exact h3
  ·rw [List.pairwise_iff_getElem];intro i j hi s p;have:=hs i j (Nat.zero_le _) p (by simpa [l] using s);rw [cmpX_not] at this;have k:i<b.size:=by simpa using hi
   have q:j<b.size:=by simpa using s
   rw [getElem!_pos b i k,getElem!_pos b j q] at this;simpa using this
  ·intro i hi;have k:i<b.size:=by simpa using hi
   have A:=holdsK_sortWorldK_c encC 5 w g 0 a.toArray b m os r hg (by simpa using l)
   have f:∀ c,c<5→(sortWorldK encC 5 w g 0 m b os).cell? ⟨g,i*5+c,none⟩=some ((encC b.toList[i])[c]!):=fun c o=>by
    have:=(A.cell k o).1;rw [Nat.zero_add] at this;rw [this,getElem!_pos b i k];simp
   exact ⟨g,rfl,f 0 γ,f 1 γ,f 2 γ,f 3 γ,f 4 γ⟩
end Go.Proofs.YtjkjpopghkeibaaGreatDoor
namespace Go.Proofs.YtjkjpopghkeibaaGreatDoor
open Go.RowKit
theorem cloneI_own (w:World) (a:Option Addr) (c:Nat) (zs:List Int) (h:Row w a zs) (h1:zs.length≤17592186044416) (i:a=none∨∃ b off,a=Ad b off) :
  Cl 99 #[.slice a zs.length c] w fun e w'=>∃ d f,e=.returned (.slice d zs.length f)∧w'.ownsRow w.heap.size 3 1 (.slice d zs.length f) zs.length (zs.map (Value.int .i64))∧Bl w w':=by
 rcases i with rfl | ⟨b,off,rfl⟩
 ·have:=row_none h;subst this;refine (clone_ints_nil w c).mono ?_;rintro e w' ⟨rfl,rfl⟩;exact ⟨none,0,rfl,by simpa using World.ownsRow_nil _ _ _ _,Qe _⟩
 ·refine (clone_ints w b off zs.length c (zs.map (fun z=>I z)) ξ (row_cells h) (ints_one zs) γ).mono ?_;rintro e w' ⟨v,rfl,g,hb⟩;obtain ⟨d,f,rfl,_⟩:=Xi g;exact ⟨d,f,rfl,g,hb⟩
theorem cloneC_own (w:World) (a:Option Addr) (n c:Nat) (d:List Int) (j:Row w a d) (k:d.length=n*5) (h1:n≤3518437208883) (m:a=none∨∃ b off,a=Ad b off) :
  Cl 100 #[.slice a n c] w fun e w'=>∃ f g,e=.returned (.slice f n g)∧w'.ownsRow w.heap.size 49 5 (.slice f n g) n (d.map (Value.int .i64))∧Bl w w':=by
 rcases m with rfl | ⟨b,off,rfl⟩
 ·have h:=row_none j;subst h;have i:n=0:=by simp at k;omega
  subst i;refine (Gf w c).mono ?_;rintro e w' ⟨rfl,rfl⟩;exact ⟨none,0,rfl,by simpa using World.ownsRow_nil _ _ _ _,Qe _⟩
 ·refine (clone_creases w b off n c (d.map (fun z=>I z)) (by simp [k]) (row_cells j) (ints_one d) γ).mono ?_;rintro e w' ⟨v,rfl,l,hb⟩;obtain ⟨f,g,rfl,_⟩:=Xi l;exact ⟨f,g,rfl,l,hb⟩
def CopyOwn (w w':World) (W H:Int) (n:Nat) (zs ks:List Int) (e:Ending):Prop := ∃ a ca b cb,e=.returned (.agg #[I W,I H,.slice a zs.length ca,.slice b n cb])∧w'.ownsRow w.heap.size 3 1 (.slice a zs.length ca) zs.length (zs.map (Value.int .i64))∧w'.ownsRow w.heap.size 49 5 (.slice b n cb) n (ks.map (Value.int .i64))∧Bl w w'
theorem copy_own (W H:Int) (a b:Option Addr) (s t n:Nat) (zs l:List Int) (w:World) (F:Row w a zs) (E:Row w b l) (K:l.length=n*5) (h1:zs.length≤17592186044416) (h2:n≤3518437208883) (D:a=none∨∃ p off,a=Ad p off) (hb:b=none∨∃ p off,b=Ad p off) :
  Cl 52 #[.agg #[I W,I H,.slice a zs.length s,.slice b n t]] w fun e w'=>CopyOwn w w' W H n zs l e:=by
 have z:=Hd (fun (V:World) hV=>cloneI_own V a s zs (F.kept hV) h1 D);have J:=Hd (fun (V:World) hV=>cloneC_own V b n t l (E.kept hV) K h2 hb);clear F E D hb;obtain ⟨m,x⟩:∃ m,m=zs.length:=⟨_,rfl⟩;rw [← x] at z ⊢;have A:=Hd x;clear x;go_enter Tryz.func52,Tryz.ntmps52;go_upto_region 1 with fail
 refine Qi (fun B hW0=>?_);have c:Hid (CPW w B (I W) (I H) (.slice a m s) (.slice b n t)):=by rw [hW0];exact CPW.new w W H _ _
 have k:w.heap.size+1<B.heap.size:=c.out.2.2.1.lt;clear hW0;obtain ⟨P,Q,R,T⟩:=c.out.1;go_cut [] (fun y=>∃ a' ca' b' cb',CPW w y (I W) (I H) (.slice a' m ca') (.slice b' n cb')∧y.ownsRow (w.heap.size+1+1) 3 1 (.slice a' m ca') m (zs.map (Value.int .i64))∧y.ownsRow (w.heap.size+1+1) 49 5 (.slice b' n cb') n (l.map (Value.int .i64)))
 case first =>
  go_region_with (first
   | (go_at_call 99;refine (z.out _ (by first | exact f.2.2.2.2 | exact Qg c.out.2.2.2.2)).mono ?_;rintro e w1 ⟨a1,k1,rfl,g,i⟩;have d:CPW w w1 (I W) (I H) (.slice a m s) (.slice b n t):=(by first | exact CPW.kept f i | exact CPW.kept (c.out.kept (Qg (Qe _))) i);have o:Hid (w1.ownsRow (w.heap.size+1+1) 3 1 (.slice a1 m k1) m (zs.map (Value.int .i64))):=(own_low g (by first | exact f.2.2.1.lt | exact k));obtain ⟨U,X,Y,Z⟩:=d.1;obtain ⟨_,_,L,M,_,_⟩:=d.2.1;have pz:=d.1.lt;clear g)
   | (go_at_call 100;refine (J.out _ (by first | exact d.2.2.2.2 | exact Qg c.out.2.2.2.2)).mono ?_;rintro e G ⟨r,k2,rfl,h,j⟩;have f:CPW w G (I W) (I H) (.slice a m s) (.slice b n t):=(by first | exact CPW.kept d j | exact CPW.kept (c.out.kept (Qg (Qe _))) j);have q:Hid (G.ownsRow (w.heap.size+1+1) 49 5 (.slice r n k2) n (l.map (Value.int .i64))):=(own_low h (by first | exact d.2.2.1.lt | exact k));obtain ⟨q0,q1,q2,q3⟩:=f.1;obtain ⟨_,_,N,O,_,_⟩:=f.2.1;have qz:=f.1.lt;clear h))
  all_goals
   go_wp2;go_meet
   case rel =>
    refine ⟨a1,k1,r,k2, ?_, ?_, ?_⟩
    ·first | exact f.set _ _ | exact d.set _ _
    ·first | exact own_set (own_set (Qj o.out j) γ) γ | exact own_set (own_set o.out γ) γ
    ·first | exact own_set (own_set (Qj q.out i) γ) γ | exact own_set (own_set q.out γ) γ
 case rest =>
  clear P Q R T c k;obtain ⟨a1,k1,r,k2,C,g,h⟩:=hcut;have u:=H3 C g h;obtain ⟨⟨c0,c1,c2,c3⟩,_,⟨d0,d1,d2,d3⟩,⟨g0,g1,g2,g3,_,_⟩,_⟩:=C;have z0:=Bt c0;have z1:=Bt d0;clear g h;go_wp2;refine bodyPost_ret (v:=.agg #[I W,I H,.slice a1 m k1,.slice r n k2]) (by simp [results,Tryz.results52,go_sem,d0,d1,d2,d3]) rfl ⟨a1,k1,r,k2,by rw [A.out], ?_, ?_, ?_⟩
  ·refine own_low (b1:=w.heap.size+1+1) ?_ γ;refine own_set ?_ γ;refine own_set ?_ γ;refine own_set ?_ γ;refine own_set ?_ γ;rw [← A.out];exact u.out.2.1
  ·refine own_low (b1:=w.heap.size+1+1) ?_ γ;refine own_set ?_ γ;refine own_set ?_ γ;refine own_set ?_ γ;refine own_set ?_ γ;exact u.out.2.2
  ·with_reducible repeat (first | exact u.out.1.2.2.2.2 | refine Qh ?_ ?_)
   all_goals (first | omega | (dsimp only;omega))
def StateOwn (w w':World) (W H:Int) (n nn:Nat) (zs ks:List Int) (M:Nat→M6) (L:List T3) (pl:Nat→Int×Int×Int) (h:Nat→Int) (e:Ending):Prop := ∃ a ca b cb g c t u Hp,e=.returned (.agg #[I W,I H,.slice a zs.length ca,.slice b n cb,.slice (Az g) nn c,.slice t (List.length Hp) u])∧w'.ownsRow w.heap.size 3 1 (.slice a zs.length ca) zs.length (zs.map (Value.int .i64))∧w'.ownsRow w.heap.size 49 5 (.slice b n cb) n (ks.map (Value.int .i64))∧MRow w' g nn M∧w.heap.size≤g∧Heap nn pl h Hp∧SRowF w' w.heap.size t (Hp.map fun s=>(s.1,tgn L s.2))∧Bl w w'
theorem state_own (w:World) (W H:Int) (a b:Option Addr) (ca cb n:Nat) (zs ks:List Int) (ad pa:Option Addr) (cc ra rk P cm pc:Nat) (M:Nat→M6) (L pl:List T3) (rv:Value) (h:Nat→Int) (hz:Row w a zs) (hk:Row w b ks) (hn:ks.length=n*5) (h1:zs.length≤17592186044416) (h2:n≤3518437208883) (ha:a=none∨∃ p off,a=Ad p off) (hb:b=none∨∃ p off,b=Ad p off)
  (hl:pl.length=L.length) (hT:TRow w ad L) (hP:TRow w pa pl) (hM:MRow w P L.length M) (h0:0<L.length) (bj:L.length≤300) (hS:∀ W,Bl w W→SortsN W L.length rv h) (D:∀ i j,i<pl.length→j<pl.length→pl.getD i (0,0,0)=pl.getD j (0,0,0)→i≠j→h i≠h j) :
  Cl 23 #[pileV ad L.length cc ra rk P cm pa pc,.agg #[I W,I H,.slice a zs.length ca,.slice b n cb],rv] w fun e w'=>StateOwn w w' W H n L.length zs ks M L (plcA pl) h e:=by
 have C1:=Hd (fun (V:World) C=>copy_own W H a b ca cb n zs ks V (hz.kept C) (hk.kept C) hn h1 h2 ha hb);have C2:=Hd (fun (V:World) C=>cloneM_any V P L.length cm M (hM.kept C) h0 bj);have C3:Hid (∀ V:World,Bl w V→Cl 54 #[.agg #[.slice ad L.length cc,.map (some ra),.map (some rk),.slice (Az P) L.length cm,.slice pa L.length pc],rv] V fun e w'=>∃ a c H,e=.returned (.slice a H.length c)∧Heap L.length (plcA pl) h H∧SRowF w' V.heap.size a (H.map fun s=>(s.1,tgn L s.2))∧Bl V w'):=fun V C=>stacks_any V ad pa cc ra rk P cm pc L pl rv h hl (hT.kept C) (hP.kept C) h0 bj (fun W' cz=>hS W' (Qc C cz)) D;unfold pileV;obtain ⟨z,bk⟩:∃ z,z=L.length:=⟨_,rfl⟩;obtain ⟨m,hm⟩:∃ m,m=zs.length:=⟨_,rfl⟩;rw [← hm] at C1 ⊢;rw [← bk] at C2 C3 ⊢;have HM:=Hd hm;clear hz hk ha hb hT hP hM hS D hm bk hl;go_enter Tryz.func23,Tryz.ntmps23;go_upto_region 1 with fail
 refine Qi (fun r hW0=>?_);have t:Bl w r.drew:=Qg (by rw [hW0];exact Qb β2);have A:At r w.heap.size 0 (.slice ad z cc):=ν;have Q:At r w.heap.size 1 (.map (some ra)):=ν;have R:At r w.heap.size 2 (.map (some rk)):=ν;have T:At r w.heap.size 3 (.slice (Az P) z cm):=ν;have U:At r w.heap.size 4 (.slice pa z pc):=ν;have B:At r (w.heap.size+1) 0 (I W):=ν;have X:At r (w.heap.size+1) 1 (I H):=ν;have Y:At r (w.heap.size+1) 2 (.slice a m ca):=ν;have Z:At r (w.heap.size+1) 3 (.slice b n cb):=ν;have k:w.heap.size+3≤r.drew.heap.size:=by rw [hW0];simp [World.drew]
 have a6:At r (w.heap.size+2) 0 (I 0):=ν;have F:r.frozen? ⟨w.heap.size+2,0,none⟩=false:=ν;have a7:At r (w.heap.size+2) 1 (I 0):=ν;have G:r.frozen? ⟨w.heap.size+2,1,none⟩=false:=ν;have a8:At r (w.heap.size+2) 2 SN:=ν;have J:r.frozen? ⟨w.heap.size+2,2,none⟩=false:=ν;have aa:At r (w.heap.size+2) 3 SN:=ν;have K:r.frozen? ⟨w.heap.size+2,3,none⟩=false:=ν;have ab:At r (w.heap.size+2) 4 SN:=ν;have N:r.frozen? ⟨w.heap.size+2,4,none⟩=false:=ν;have ac:At r (w.heap.size+2) 5 SN:=ν;have O:r.frozen? ⟨w.heap.size+2,5,none⟩=false:=ν;have zA:=Bt A;have zB:=Bt B;clear hW0
 go_region_held3 (fun w'=>At w' w.heap.size 0 (.slice ad z cc)∧At w' w.heap.size 1 (.map (some ra))∧At w' w.heap.size 2 (.map (some rk))∧At w' w.heap.size 3 (.slice (Az P) z cm)∧At w' w.heap.size 4 (.slice pa z pc)∧At w' (w.heap.size+1) 0 (I W)∧At w' (w.heap.size+1) 1 (I H)∧At w' (w.heap.size+1) 2 (.slice a m ca)∧At w' (w.heap.size+1) 3 (.slice b n cb))
  ((refine ⟨?_, ?_, ?_, ?_, ?_, ?_, ?_, ?_, ?_⟩ <;> (first | (with_reducible (repeat (first | assumption | refine Qq ?_));done) | ((repeat (with_reducible refine Qo ?_ θ));with_reducible assumption))))
  (first
   | (go_at_call 52;refine (C1.out _ (by first | exact x | exact y | exact t)).mono ?_;rintro e w1 ⟨a1,k1,a2,k2,rfl,bc,be,g⟩;have u:Bl w w1:=(by first | exact Qc x g | exact Qc y g | exact Qc t g);have q:w.heap.size+3≤w1.heap.size:=Nt (by first | exact l | exact o | exact k) g.size;have az:Hid (w1.ownsRow (w.heap.size+3) 3 1 (.slice a1 zs.length k1) zs.length (zs.map (Value.int .i64))∧w1.ownsRow (w.heap.size+3) 49 5 (.slice a2 n k2) n (ks.map (Value.int .i64))):=⟨own_low bc (by first | exact l | exact o | exact k),own_low be (by first | exact l | exact o | exact k)⟩;clear bc be;have bm:=Qa g (by first | exact A | exact bv | exact cj);have bn:=Qa g (by first | exact Q | exact bw | exact co);have bo:=Qa g (by first | exact R | exact bz | exact cp);have bp:=Qa g (by first | exact T | exact cd | exact ct);have bq:=Qa g (by first | exact U | exact ce | exact cu);have br:=Qa g (by first | exact B | exact cf | exact cv);have bs:=Qa g (by first | exact X | exact cg | exact cw);have bt:=Qa g (by first | exact Y | exact ch | exact cx);have bu:=Qa g (by first | exact Z | exact ci | exact cy);have ae:=Qa g (by first | exact a6 | exact ak | exact ar);have f10:=(g.frozen (p:=⟨w.heap.size+2,0,none⟩) (by first | exact k | exact l | exact o)).trans (by first | exact F | exact f20 | exact b6);have af:=Qa g (by first | exact a7 | exact am | exact au);have f11:=(g.frozen (p:=⟨w.heap.size+2,1,none⟩) (by first | exact k | exact l | exact o)).trans (by first | exact G | exact f21 | exact b7);have ag:=Qa g (by first | exact a8 | exact an | exact av);have f12:=(g.frozen (p:=⟨w.heap.size+2,2,none⟩) (by first | exact k | exact l | exact o)).trans (by first | exact J | exact f22 | exact b8);have ah:=Qa g (by first | exact aa | exact ao | exact aw);have f13:=(g.frozen (p:=⟨w.heap.size+2,3,none⟩) (by first | exact k | exact l | exact o)).trans (by first | exact K | exact f23 | exact b9);have ai:=Qa g (by first | exact ab | exact ap | exact ax);have f14:=(g.frozen (p:=⟨w.heap.size+2,4,none⟩) (by first | exact k | exact l | exact o)).trans (by first | exact N | exact f24 | exact ba);have aj:=Qa g (by first | exact ac | exact aq | exact ay);have f15:=(g.frozen (p:=⟨w.heap.size+2,5,none⟩) (by first | exact k | exact l | exact o)).trans (by first | exact O | exact f25 | exact bb))
   | (go_at_call 53;refine (C2.out _ (by first | exact u | exact y | exact t)).mono ?_;rintro e w2 ⟨g1,c1,rfl,bf,bg,d⟩;have x:Bl w w2:=(by first | exact Qc u d | exact Qc y d | exact Qc t d);have l:w.heap.size+3≤w2.heap.size:=Nt (by first | exact q | exact o | exact k) d.size;have E:Hid (MRow w2 g1 z M∧w.heap.size+3≤g1):=⟨bf,Nt (by first | exact q | exact o | exact k) bg⟩;clear bf bg;have bv:=Qa d (by first | exact A | exact bm | exact cj);have bw:=Qa d (by first | exact Q | exact bn | exact co);have bz:=Qa d (by first | exact R | exact bo | exact cp);have cd:=Qa d (by first | exact T | exact bp | exact ct);have ce:=Qa d (by first | exact U | exact bq | exact cu);have cf:=Qa d (by first | exact B | exact br | exact cv);have cg:=Qa d (by first | exact X | exact bs | exact cw);have ch:=Qa d (by first | exact Y | exact bt | exact cx);have ci:=Qa d (by first | exact Z | exact bu | exact cy);have ak:=Qa d (by first | exact a6 | exact ae | exact ar);have f20:=(d.frozen (p:=⟨w.heap.size+2,0,none⟩) (by first | exact k | exact q | exact o)).trans (by first | exact F | exact f10 | exact b6);have am:=Qa d (by first | exact a7 | exact af | exact au);have f21:=(d.frozen (p:=⟨w.heap.size+2,1,none⟩) (by first | exact k | exact q | exact o)).trans (by first | exact G | exact f11 | exact b7);have an:=Qa d (by first | exact a8 | exact ag | exact av);have f22:=(d.frozen (p:=⟨w.heap.size+2,2,none⟩) (by first | exact k | exact q | exact o)).trans (by first | exact J | exact f12 | exact b8);have ao:=Qa d (by first | exact aa | exact ah | exact aw);have f23:=(d.frozen (p:=⟨w.heap.size+2,3,none⟩) (by first | exact k | exact q | exact o)).trans (by first | exact K | exact f13 | exact b9);have ap:=Qa d (by first | exact ab | exact ai | exact ax);have f24:=(d.frozen (p:=⟨w.heap.size+2,4,none⟩) (by first | exact k | exact q | exact o)).trans (by first | exact N | exact f14 | exact ba);have aq:=Qa d (by first | exact ac | exact aj | exact ay);have f25:=(d.frozen (p:=⟨w.heap.size+2,5,none⟩) (by first | exact k | exact q | exact o)).trans (by first | exact O | exact f15 | exact bb))
   | (go_at_call 54;refine (C3.out _ (by first | exact u | exact x | exact t)).mono ?_;rintro e w3 ⟨t1,u1,Hp,rfl,bh,bi,f⟩;have y:Bl w w3:=(by first | exact Qc u f | exact Qc x f | exact Qc t f);have o:w.heap.size+3≤w3.heap.size:=Nt (by first | exact q | exact l | exact k) f.size;have b5:Hid (Heap z (plcA pl) h Hp∧SRowF w3 (w.heap.size+3) t1 (Hp.map fun s=>(s.1,tgn L s.2))):=⟨bh,bi.low (by first | exact q | exact l | exact k)⟩;clear bh bi;have cj:=Qa f (by first | exact A | exact bm | exact bv);have co:=Qa f (by first | exact Q | exact bn | exact bw);have cp:=Qa f (by first | exact R | exact bo | exact bz);have ct:=Qa f (by first | exact T | exact bp | exact cd);have cu:=Qa f (by first | exact U | exact bq | exact ce);have cv:=Qa f (by first | exact B | exact br | exact cf);have cw:=Qa f (by first | exact X | exact bs | exact cg);have cx:=Qa f (by first | exact Y | exact bt | exact ch);have cy:=Qa f (by first | exact Z | exact bu | exact ci);have ar:=Qa f (by first | exact a6 | exact ae | exact ak);have b6:=(f.frozen (p:=⟨w.heap.size+2,0,none⟩) (by first | exact k | exact q | exact l)).trans (by first | exact F | exact f10 | exact f20);have au:=Qa f (by first | exact a7 | exact af | exact am);have b7:=(f.frozen (p:=⟨w.heap.size+2,1,none⟩) (by first | exact k | exact q | exact l)).trans (by first | exact G | exact f11 | exact f21);have av:=Qa f (by first | exact a8 | exact ag | exact an);have b8:=(f.frozen (p:=⟨w.heap.size+2,2,none⟩) (by first | exact k | exact q | exact l)).trans (by first | exact J | exact f12 | exact f22);have aw:=Qa f (by first | exact aa | exact ah | exact ao);have b9:=(f.frozen (p:=⟨w.heap.size+2,3,none⟩) (by first | exact k | exact q | exact l)).trans (by first | exact K | exact f13 | exact f23);have ax:=Qa f (by first | exact ab | exact ai | exact ap);have ba:=(f.frozen (p:=⟨w.heap.size+2,4,none⟩) (by first | exact k | exact q | exact l)).trans (by first | exact N | exact f14 | exact f24);have ay:=Qa f (by first | exact ac | exact aj | exact aq);have bb:=(f.frozen (p:=⟨w.heap.size+2,5,none⟩) (by first | exact k | exact q | exact l)).trans (by first | exact O | exact f15 | exact f25)))
 all_goals
  go_wp2;refine bodyPost_ret (v:=.agg #[I W,I H,.slice a1 zs.length k1,.slice a2 n k2,.slice (Az g1) z c1,.slice t1 Hp.length u1]) (by first | (simp [results,Tryz.results23,go_sem];done) | (simp [results,Tryz.results23,go_sem];done) | (simp [results,Tryz.results23,go_sem,ar,au,av,aw,ax,ay];done)) rfl ⟨a1,k1,a2,k2,g1,c1,t1,u1,Hp,rfl, ?_, ?_, ?_,(by have:=E.out.2;omega),b5.out.1, ?_, ?_⟩
  ·refine own_low (b1:=w.heap.size+3) ?_ γ;with_reducible repeat (refine own_set ?_ γ)
   exact Qj az.out.1 (by with_reducible first | exact Qe _ | exact d | exact f | exact Qc d f | exact Qc f d)
  ·refine own_low (b1:=w.heap.size+3) ?_ γ;with_reducible repeat (refine own_set ?_ γ)
   exact Qj az.out.2 (by with_reducible first | exact Qe _ | exact d | exact f | exact Qc d f | exact Qc f d)
  ·have d6:=E.out.2;with_reducible repeat (refine MRow.set ?_ γ)
   exact E.out.1.kept (by with_reducible first | exact Qe _ | exact g | exact f | exact Qc g f | exact Qc f g)
  ·refine SRowF.low (base:=w.heap.size+3) ?_ γ;with_reducible repeat (refine SRowF.set ?_ θ)
   exact b5.out.2.kept (by with_reducible first | exact Qe _ | exact g | exact d | exact Qc g d | exact Qc d g)
  ·with_reducible repeat (refine Qh ?_ ?_)
   all_goals first | (with_reducible exact u) | (with_reducible exact x) | (with_reducible exact y) | omega | (dsimp only;omega)
end Go.Proofs.YtjkjpopghkeibaaGreatDoor
namespace Go.Proofs
open Go.Shelf
def Tryz.blen_ren:Go.Shelf.Ren:=⟨fun | 15=>111 | 28=>159 | 29=>160 | n=>n,fun | 39=>176 | 3=>3 | 53=>229 | 55=>231 | 4=>4 | 5=>5 | 9=>9 | n=>n,fun | n=>n⟩
theorem Tryz.blen:Go.Proofs.SlLaysF0.n15 Tryz.prog Tryz.blen_ren:={
 mixed:=by kernel_rfl
 f15:=Tryz.func111.trans (congrArg some (by kernel_rfl))
 f28:=Tryz.func159.trans (congrArg some (by kernel_rfl))
 f29:=Tryz.func160.trans (congrArg some (by kernel_rfl))
 t3:=Tryz.underlying3
 a3:=Tryz.isAgg3
 z3:=Tryz.sizeOf3
 v3:=Tryz.zeroValue3
 t4:=Tryz.underlying4
 a4:=Tryz.isAgg4
 z4:=Tryz.sizeOf4
 v4:=Tryz.zeroValue4
 t5:=Tryz.underlying5
 a5:=Tryz.isAgg5
 z5:=Tryz.sizeOf5
 v5:=Tryz.zeroValue5
 t9:=Tryz.underlying9
 a9:=Tryz.isAgg9
 z9:=Tryz.sizeOf9
 v9:=Tryz.zeroValue9
 t39:=Tryz.underlying176
 a39:=Tryz.isAgg176
 z39:=Tryz.sizeOf176
 v39:=Tryz.zeroValue176
 t53:=Tryz.underlying229
 a53:=Tryz.isAgg229
 z53:=Tryz.sizeOf229
 v53:=Tryz.zeroValue229
 t55:=Tryz.underlying231
 a55:=Tryz.isAgg231
 z55:=Tryz.sizeOf231
 v55:=Tryz.zeroValue231 }
end Go.Proofs
namespace Go.Proofs.YtjkjpopghkeibaaGreatDoor
open Go.RowKit
theorem sortNums_any (w:World) (g o n a N:Nat) (q:Value) (b:Nat→Nat→Int) (y:CmpF w g N q b) (s:Sort.SWO (ltF b)) (d:Array Nat) (z:d.size=n) (x:∀ k,k<d.size→d[k]! < N) (C:n≤300) (A:SrtW w w g o d) :
  Cl 66 #[.slice (Ad g o) n a,.func (.func 67) #[q] #[]] w fun e w'=>e=.returned (.tuple #[])∧∃ c,Sort.PermIn 0 n d c∧Sort.SortedIn (ltF b) 0 n c∧SrtW w w' g o c:=by
 have j:Lib.bitLen n≤62:=Lib.bitLen_le n 62 γ γ
 have hl:Cl 111 #[.int .u64 (n:Int)] w fun e w'=>e=.returned (I (Lib.bitLen n:Nat))∧w'=w:=by
  have h:=Any.bits_Len (SlLaysF0.n15.bits (P:=Tryz.prog) (ρ:=Tryz.blen_ren) Tryz.blen) (n:Int) w γ γ;rw [Int.toNat_natCast] at h;exact h
 obtain ⟨f,l⟩:∃ f,f=Lib.bitLen n:=⟨_,rfl⟩;rw [← l] at hl j;have B:=Hd hl
 have u:Hid (Cl 120 #[.slice (Ad g o) n a,I 0,I (n:Int),I (f:Int),.func (.func 67) #[q] #[]] w fun e w'=>e=.returned (.tuple #[])∧SrtW w w' g o (Sort.pdq (ltF b) d 0 n f true true)):=by
  have:=pdq_any w g o n a N q b y s C (n+1) 0 n f d w γ z A γ γ γ x (Or.inl rfl);exact this
 have hs:=Sort.pdq_sorts (ltF b) s d 0 n f true true γ γ (Or.inl rfl);obtain ⟨c,i⟩:∃ c,c=Sort.pdq (ltF b) d 0 n f true true:=⟨_,rfl⟩;rw [← i] at u hs;have v:=Hd hs;have wr:IntKind.u64.wrap (n:Int)=(n:Int):=by simp [IntKind.wrap,IntKind.bits,IntKind.signed];omega
 clear hs i l hl A y s x z;go_enter Tryz.func66,Tryz.ntmps66;go_wp2_with (first | (go_at_call 111;refine B.out.mono ?_;rintro e w1 ⟨rfl,m⟩;have t:=m.symm;clear m;subst t) | (go_at_call 120;refine u.out.mono ?_;rintro e D ⟨rfl,p⟩;have r:=Hd p;clear p))
 go_end0
 exact ⟨rfl,c,v.out.1,v.out.2,r.out⟩
theorem ltF_key (h:Nat→Int):ltF (fun x y=>cmp3 (h x) (h y))=fun x y=>decide (h x<h y):=by
 funext x y
 unfold ltF cmp3;by_cases q:h x<h y
 ·simp [q]
 ·by_cases q2:h y<h x
  ·simp [q,q2]
  ·simp [q,q2]
theorem sortsN_of (w:World) (N:Nat) (m:Value) (h:Nat→Int) (C:∀ W:World,Bl w W→∀ x y:Nat,x<N→y<N→Rt 67 #[m,I (x:Int),I (y:Int)] W (I (cmp3 (h x) (h y)))):SortsN w N m h:=by
 intro W g n R hb hg u f A v;have p:CmpF W g N m (fun x y=>cmp3 (h x) (h y)):=fun G q x y E F=>C G (hb.grown q hb.size (fun r e=>by cases e;exact hg)) x y E F;have o:Sort.SWO (ltF (fun x y=>cmp3 (h x) (h y))):=by rw [ltF_key];exact swo_key h
 have t:g<W.heap.size:=bk (v 0 (List.length_pos_iff.2 u)).1
 have B:SrtW W W g 0 R.toArray:=⟨fun j d=>by
  have c:j<R.length:=by simpa using d
  obtain ⟨c1,c2⟩:=v j c;rw [Nat.zero_add,getElem!_pos _ j d];simp only [List.getElem_toArray];exact ⟨c1,c2⟩,⟨rfl,rfl,rfl,Nr _,fun _ _ _=>rfl⟩,t⟩
 refine (sortNums_any W g 0 R.length n N m _ p o R.toArray ξ (fun k D=>by
  rw [getElem!_pos _ k D];simp only [List.getElem_toArray];exact A _ (Lm _)) f B).mono ?_
 rintro e w' ⟨rfl,a,hp,hs,z⟩;have l:a.size=R.length:=by simpa using hp.1
 refine ⟨rfl,a.toList, ?_, ?_, ?_,z.gr⟩
 ·have h3:=hp.2.2
  have e1:(a.extract 0 R.length).toList=a.toList:=by
   rw [← l];simp
  have e2:(R.toArray.extract 0 R.length).toList=R:=ξ;rw [e1,e2] at h3;exact h3
 ·unfold Upw;rw [List.pairwise_iff_getElem];intro i j hi d s;have:=hs i j (Nat.zero_le _) s (by simpa [l] using d);have b:i<a.size:=by simpa using hi
  have c:j<a.size:=by simpa using d
  rw [getElem!_pos a i b,getElem!_pos a j c,ltF_key,decide_eq_false_iff_not] at this;simpa using this
 ·intro i hi;have b:i<a.size:=by simpa using hi
  obtain ⟨c1,c2⟩:=z.row i b;rw [Nat.zero_add,getElem!_pos a i b] at c1;rw [Nat.zero_add] at c2;exact ⟨by simpa using c1,c2⟩
theorem nodup_at {α:Type} {l:List α} (h:l.Nodup) {i j:Nat} (hi:i<l.length) (a:j<l.length) (e:l[i]=l[j]):i=j:=by
 have hp:=List.pairwise_iff_getElem.1 h;rcases Nat.lt_trichotomy i j with q | q | q
 ·exact absurd e (hp i j hi a q)
 ·exact q
 ·exact absurd e.symm (hp j i a hi q)
theorem face_map {kd:E4→Int} {L:List T3} {M:Nat→M6} (n:Cons kd L M) (g:L.Nodup) {t u:T3} (h:ReachC (fun e=>decide (kd e=0)) L t u):∀ i j (hi:i<L.length) (a:j<L.length),L[i]=t→L[j]=u→M i=M j:=by
 induction h using ReachC.ind with
 | here h =>
  intro i j hi a e1 e2;have:=nodup_at g hi a (e1.trans e2.symm);rw [this]
 | @step u v hr hv ha ih =>
  intro i j hi a e1 e2;obtain ⟨k,m,ek⟩:=List.getElem_of_mem hr.mem.2;have h1:=ih i k hi m e1 ek;obtain ⟨l,e,b,c,d⟩:=ha;have f:k≠j:=fun q=>l (by subst q;rw [← e2,ek]);have h2:=n.2 k j m a e f (by rw [ek];exact b) (by rw [e2];exact c);have o:kd e=0:=by simpa using d
  rw [h2,farM,if_pos o];exact h1
def lbs (part:Nat→Int) (n:Nat):List Nat:=(List.range n).map fun i=>(part i).toNat
theorem lbs_len (part:Nat→Int) (n:Nat):(lbs part n).length=n:=by simp [lbs]
theorem lbs_at {part:Nat→Int} {n i:Nat} (hi:i<n):(lbs part n).getD i 0=(part i).toNat:=by
 rw [List.getD_eq_getElem?_getD];simp [lbs,hi]
theorem faces_dis {kd:E4→Int} {L:List T3} {M:Nat→M6} {part:Nat→Int} {hs:List Int} (l:Cons kd L M) (p:Joined L) (c:L.Nodup) (q:L.length≤300) (b:∀ t∈L,(0≤t.1∧t.1≤8)∧(0≤t.2.1∧t.2.1≤8)∧(0≤t.2.2∧t.2.2≤3)) (g:PartsOk (fun e=>decide (kd e=0)) L part) (d:∀ i,i<L.length→part i<hs.length) (s:hs.Nodup) :
  ∀ i j,i<(pls L M L.length).length→j<(pls L M L.length).length→(pls L M L.length).getD i (0,0,0)=(pls L M L.length).getD j (0,0,0)→i≠j→hgt hs (lbs part L.length) i≠hgt hs (lbs part L.length) j:=by
 intro i j hi a m h f;rw [Yj] at hi a;have u:=g.1 i hi;have v:=g.1 j a;have l1:=d i hi;have l2:=d j a
 have k:part i=part j:=by
  unfold hgt at f;rw [lbs_at hi,lbs_at a] at f;have n:(part i).toNat<hs.length:=γ;have o:(part j).toNat<hs.length:=γ;rw [List.getD_eq_getElem?_getD,List.getD_eq_getElem?_getD,List.getElem?_eq_getElem n,List.getElem?_eq_getElem o] at f;have:=nodup_at s n o (by simpa using f);omega
 have hr:=g.2.2.1 i j hi a k;have r:=face_map l c hr i j hi a rfl rfl;have hg:=cons_good p c q b l i hi
 have e1:(pls L M L.length).getD i (0,0,0)=mvt (M i) L[i]:=by
  rw [List.getD_eq_getElem?_getD];simp [pls,hi]
 have e2:(pls L M L.length).getD j (0,0,0)=mvt (M j) L[j]:=by
  rw [List.getD_eq_getElem?_getD];simp [pls,a]
 rw [e1,e2,← r] at m;have:=mvt_inj hg.1 (b L[i] (Lm hi)).2.2 (b L[j] (Lm a)).2.2 m;exact h (nodup_at c hi a this)
end Go.Proofs.YtjkjpopghkeibaaGreatDoor
namespace Go.Proofs.YtjkjpopghkeibaaGreatDoor
open Go.RowKit Go.Shelf Go.Lib
variable {part:Nat→Int} {n:Nat}
theorem lay_tear (w:World) (W H:Int) (a E M:Option Addr) (m D n d O N:Nat) (P:Hid (∀ V:World,Bl w V→Rt 18 #[.agg #[I W,I H,.slice a m D,.slice E n d]] V (.tuple #[.agg #[SN,.map none,.map none,SN,SN],I 8]))) :
  Rt 11 #[.agg #[I W,I H,.slice a m D,.slice E n d],.slice M O N] w (.tuple #[.agg #[I 0,I 0,SN,SN,SN,SN],I 8]):=by
 go_enter Tryz.func11,Tryz.ntmps11;go_upto_region 1 with fail
 refine Qi (fun c hW0=>?_);have f:Bl w c:=by rw [hW0];exact Qb β2
 have q:At c w.heap.size 0 (I W):=ν;have r:At c w.heap.size 1 (I H):=ν;have s:At c w.heap.size 2 (.slice a m D):=ν;have t:At c w.heap.size 3 (.slice E n d):=ν;have u:At c (w.heap.size+1) 0 (.slice M O N):=ν;have g:At c (w.heap.size+2) 0 (I 0):=ν;have h:c.frozen? ⟨w.heap.size+2,0,none⟩=false:=ν;have x:At c (w.heap.size+2) 1 (I 0):=ν;have i:c.frozen? ⟨w.heap.size+2,1,none⟩=false:=ν;have y:At c (w.heap.size+2) 2 SN:=ν;have j:c.frozen? ⟨w.heap.size+2,2,none⟩=false:=ν;have z:At c (w.heap.size+2) 3 SN:=ν;have k:c.frozen? ⟨w.heap.size+2,3,none⟩=false:=ν;have A:At c (w.heap.size+2) 4 SN:=ν;have l:c.frozen? ⟨w.heap.size+2,4,none⟩=false:=ν;have B:At c (w.heap.size+2) 5 SN:=ν;have o:c.frozen? ⟨w.heap.size+2,5,none⟩=false:=ν;have z0:=Bt g;clear hW0;go_upto_region 2 with (go_at_call 18;refine (P.out _ f).mono ?_;rintro e w1 ⟨rfl,b⟩)
 have F:=Qa b q;have G:=Qa b r;have J:=Qa b s;have K:=Qa b t;have L:=Qa b u;have Q:=Qa b g;have f10:=(b.frozen (p:=⟨w.heap.size+2,0,none⟩) z0).trans h;have R:=Qa b x;have f11:=(b.frozen (p:=⟨w.heap.size+2,1,none⟩) z0).trans i;have T:=Qa b y;have f12:=(b.frozen (p:=⟨w.heap.size+2,2,none⟩) z0).trans j;have U:=Qa b z;have f13:=(b.frozen (p:=⟨w.heap.size+2,3,none⟩) z0).trans k;have X:=Qa b A;have f14:=(b.frozen (p:=⟨w.heap.size+2,4,none⟩) z0).trans l;have Y:=Qa b B;have f15:=(b.frozen (p:=⟨w.heap.size+2,5,none⟩) z0).trans o;have z1:=Nl z0 b.size;clear q r s t u g h x i y j z k A l B o;have C:=Hd (Qc f b);clear b f F G J K L;go_wp2;refine bodyPost_ret (v:=.tuple #[.agg #[I 0,I 0,SN,SN,SN,SN],I 8]) (by simp [results,Tryz.results11,go_sem, *]) rfl ⟨rfl, ?_⟩;with_reducible repeat' (first | exact C.out | refine Qh ?_ ?_ | refine Qg ?_ | refine Qb ?_)
 all_goals (dsimp only;omega)
theorem foldl_max (l:List Int):∀ m:Int,(∀ x∈l,x≤l.foldl max m)∧m≤l.foldl max m∧(l.foldl max m=m∨l.foldl max m∈l):=by
 induction l with
 | nil=>intro m;simp
 | cons y r ih =>
  intro m;obtain ⟨h1,h2,h3⟩:=ih (max m y);rw [List.foldl_cons];refine ⟨fun x a=>?_,γ, ?_⟩
  ·rcases List.mem_cons.1 a with rfl | a
   ·omega
   ·exact h1 x a
  ·rcases h3 with h3 | h3
   ·rcases Int.le_total m y with q | q
    ·right
     have:max m y=y:=γ;rw [h3,this];simp
    ·left
     omega
   ·right
    simp [h3]
def topP (part:Nat→Int) (n:Nat):Int:=Lib.maxOf ((List.range n).map part)
theorem topP_le {i:Nat} (hi:i<n):part i≤topP part n:=by
 have a:part i∈(List.range n).map part:=List.mem_map.2 ⟨i,by simpa using hi,rfl⟩;unfold topP Lib.maxOf;exact (foldl_max _ _).1 _ a
theorem topP_at (h0:0<n):∃ i,i<n∧part i=topP part n:=by
 unfold topP Lib.maxOf;rcases (foldl_max ((List.range n).map part) (((List.range n).map part).headD 0)).2.2 with h | h
 ·refine ⟨0,h0, ?_⟩;rw [h]
  cases n with
  | zero=>omega
  | succ k=>simp [List.range_succ_eq_map]
 ·obtain ⟨i,hi,e⟩:=List.mem_map.1 h;exact ⟨i,by simpa using hi,e⟩
theorem parts_le {cr:E4→Bool} {L:List T3} (h:PartsOk cr L part):∀ a,a<L.length→part a≤(a:Int):=by
 intro a;induction a using Nat.strongRecOn with
 | ind a ih =>
  intro c;rcases Int.lt_or_le 0 (part a) with q | q
  ·obtain ⟨b,hb,e⟩:=h.2.2.2 a c (part a - 1) γ γ;have:=ih b hb γ;omega
  ·omega
theorem topP_bd {cr:E4→Bool} {L:List T3} (h:PartsOk cr L part) (h0:0<L.length) (a:L.length≤300):0≤topP part L.length∧topP part L.length≤299:=by
 obtain ⟨i,hi,e⟩:=topP_at (part:=part) h0;have h1:=h.1 i hi;have h2:=parts_le h i hi;omega
theorem zrow_nrow {w:World} {g:Nat} (h:ZRow w g n part) (h0:∀ i,i<n→0≤part i):NRow w g 0 (lbs part n):=fun i hi=>by
 have a:i<n:=by simpa [lbs] using hi
 have h1:=(h i a).1;have h2:=h0 i a;(try simp only [At,I]);rw [Nat.zero_add,h1]
 simp only [lbs,List.getElem_map,List.getElem_range];(try simp only [I]);rw [Int.toNat_of_nonneg h2]
theorem row_some {w:World} {a:Option Addr} {zs:List Int} (h:Row w a zs) (h0:0<zs.length):∃ g o,a=Ad g o:=by
 obtain ⟨b,off,e,_⟩:=h 0 h0;exact ⟨b,off,e⟩
def LaidTo (w w':World) (W H:Int) (n nn:Nat) (zs ks hs:List Int) (L:List T3) (kd:E4→Int) (e:Ending):Prop := ∃ M part,Cons kd L M∧PartsOk (fun e=>decide (kd e=0)) L part∧Bl w w'∧(((hs.length:Int)≠topP part nn+1∧e=.returned (.tuple #[.agg #[I 0,I 0,SN,SN,SN,SN],I 2]))∨((hs.length:Int)=topP part nn+1∧¬ hs.Nodup∧e=.returned (.tuple #[.agg #[I 0,I 0,SN,SN,SN,SN],I 6]))∨((hs.length:Int)=topP part nn+1∧hs.Nodup∧∃ v,e=.returned (.tuple #[v,I 0])∧StateOwn w w' W H n nn zs ks M L (plcA (pls L M nn)) (hgt hs (lbs part nn)) (.returned v)))
theorem lay_flat (w:World) (W H:Int) (a cb ah:Option Addr) (m ca n A hn hc q:Nat) (zs ks hs:List Int) (L:List T3) (kd:E4→Int) (CP:Hid (∀ V:World,Bl w V→Cl 18 #[.agg #[I W,I H,.slice a m ca,.slice cb n A]] V fun e w'=>∃ M ad cc ra rk gm cm pa pc,Cons kd L M∧e=.returned (.tuple #[.agg #[.slice ad q cc,.map (some ra),.map (some rk),.slice (Az gm) q cm,.slice pa q pc],I 0])∧PileAt w' ad cc ra rk gm cm pa pc L kd M∧Bl V w'))
  (hm:m=zs.length) (d6:q=L.length) (cw:hn=hs.length) (hz:Row w a zs) (hk:Row w cb ks) (hh:Row w ah hs) (cy:ks.length=n*5) (h1:zs.length≤17592186044416) (h2:n≤3518437208883) (ha:a=none∨∃ p off,a=Ad p off) (hb:cb=none∨∃ p off,cb=Ad p off) (d7:Steps w) (hJ:Joined L) (u:L.Nodup) (hL:L.length≤300) (cv:∀ t∈L,(0≤t.1∧t.1≤8)∧(0≤t.2.1∧t.2.1≤8)∧(0≤t.2.2∧t.2.2≤3)) :
  Cl 11 #[.agg #[I W,I H,.slice a m ca,.slice cb n A],.slice ah hn hc] w fun e w'=>LaidTo w w' W H n q zs ks hs L kd e:=by
 have HX:=H7 hm d6 cw hz hk hh cy;have HY:=H4 h1 h2 ha hb;have C:Hid (Steps w∧Joined L∧L.Nodup∧L.length≤300∧∀ t∈L,(0≤t.1∧t.1≤8)∧(0≤t.2.1∧t.2.1≤8)∧(0≤t.2.2∧t.2.2≤3)):=⟨d7,hJ,u,hL,cv⟩;clear hm d6 cw hz hk hh cy h1 h2 ha hb d7 hJ u hL cv;go_enter Tryz.func11,Tryz.ntmps11;go_upto_region 1 with fail
 refine Qi (fun z hW0=>?_);have b6:Bl w z:=by rw [hW0];exact Qb β2
 have dn:At z w.heap.size 0 (I W):=ν;have dp:At z w.heap.size 1 (I H):=ν;have ds:At z w.heap.size 2 (.slice a m ca):=ν;have dt:At z w.heap.size 3 (.slice cb n A):=ν;have du:At z (w.heap.size+1) 0 (.slice ah hn hc):=ν;have b9:At z (w.heap.size+2) 0 (I 0):=ν;have bj:z.frozen? ⟨w.heap.size+2,0,none⟩=false:=ν;have ep:At z (w.heap.size+2) 1 (I 0):=ν;have bk:z.frozen? ⟨w.heap.size+2,1,none⟩=false:=ν;have er:At z (w.heap.size+2) 2 SN:=ν;have bm:z.frozen? ⟨w.heap.size+2,2,none⟩=false:=ν;have es:At z (w.heap.size+2) 3 SN:=ν;have bn:z.frozen? ⟨w.heap.size+2,3,none⟩=false:=ν;have et:At z (w.heap.size+2) 4 SN:=ν;have bo:z.frozen? ⟨w.heap.size+2,4,none⟩=false:=ν;have eu:At z (w.heap.size+2) 5 SN:=ν;have bp:z.frozen? ⟨w.heap.size+2,5,none⟩=false:=ν;have z0:=Bt b9;clear hW0;go_upto_region 2 with (go_at_call 18;refine (CP.out _ b6).mono ?_;rintro e w1 ⟨M,ad,cc,ra,rk,gm,cm,pa,pc,hC,rfl,cp,k⟩)
 have dv:=Qa k dn;have dw:=Qa k dp;have dx:=Qa k ds;have dy:=Qa k dt;have dz:=Qa k du;have ew:=Qa k b9;have f10:=(k.frozen (p:=⟨w.heap.size+2,0,none⟩) z0).trans bj;have ex:=Qa k ep;have f11:=(k.frozen (p:=⟨w.heap.size+2,1,none⟩) z0).trans bk;have ey:=Qa k er;have f12:=(k.frozen (p:=⟨w.heap.size+2,2,none⟩) z0).trans bm;have ez:=Qa k es;have f13:=(k.frozen (p:=⟨w.heap.size+2,3,none⟩) z0).trans bn;have fa:=Qa k et;have f14:=(k.frozen (p:=⟨w.heap.size+2,4,none⟩) z0).trans bo;have fb:=Qa k eu;have f15:=(k.frozen (p:=⟨w.heap.size+2,5,none⟩) z0).trans bp;have z1:=Nl z0 k.size;clear dn dp ds dt du b9 bj ep bk er bm es bn et bo eu bp;have bh:=Hd (Qc b6 k);have HP:=H2 hC cp;clear k b6 hC cp CP;refine Qi (fun G B=>?_)
 have l:Bl w1 G:=by
  rw [B];with_reducible repeat' (first | exact Qe _ | refine Qh ?_ ?_ | refine Qb ?_)
  all_goals (dsimp only;omega)
 have b7:At G w1.heap.size 0 (.slice ad q cc):=by rw [B];simp [go_sem]
 have d8:At G w1.heap.size 1 (.map (some ra)):=by rw [B];simp [go_sem]
 have d9:At G w1.heap.size 2 (.map (some rk)):=by rw [B];simp [go_sem]
 have da:At G w1.heap.size 3 (.slice (Az gm) q cm):=by rw [B];simp [go_sem]
 have db:At G w1.heap.size 4 (.slice pa q pc):=by rw [B];simp [go_sem]
 have zp:=Bt b7;clear B;have e4:=Qa l dv;have e5:=Qa l dw;have e6:=Qa l dx;have e7:=Qa l dy;have e8:=Qa l dz;have fc:=Qa l ew;have f20:=(l.frozen (p:=⟨w.heap.size+2,0,none⟩) z1).trans f10;have fe:=Qa l ex;have f21:=(l.frozen (p:=⟨w.heap.size+2,1,none⟩) z1).trans f11;have ff:=Qa l ey;have f22:=(l.frozen (p:=⟨w.heap.size+2,2,none⟩) z1).trans f12;have fg:=Qa l ez;have f23:=(l.frozen (p:=⟨w.heap.size+2,3,none⟩) z1).trans f13;have fh:=Qa l fa;have f24:=(l.frozen (p:=⟨w.heap.size+2,4,none⟩) z1).trans f14;have fi:=Qa l fb;have f25:=(l.frozen (p:=⟨w.heap.size+2,5,none⟩) z1).trans f15;have z2:=Nl z1 l.size;clear dv dw dx dy dz ew f10 ex f11 ey f12 ez f13 fa f14 fb f15;have D:=Hd l;clear l
 have CF:Hid (Cl 19 #[.agg #[.slice ad q cc,.map (some ra),.map (some rk)]] G fun e w'=>∃ g part,e=.returned (.slice (Az g) q q)∧ZRow w' g q part∧PartsOk (fun e=>decide (kd e=0)) L part∧G.heap.size≤g∧Bl G w'):=by
  have:=pfaces_any G cc ra rk ad L kd (C.out.1.kept (Qc bh.out D.out)) (HP.out.2.tr.kept D.out) (HP.out.2.kl.kept D.out) C.out.2.2.2.1 C.out.2.2.1 C.out.2.2.2.2;rw [← HX.out.2.1] at this;exact this
 go_upto_region 5 with (go_at_call 19;refine CF.out.mono ?_;rintro e w3 ⟨g,part,rfl,hZ,ct,hg,d⟩)
 have zf:G.heap.size≤w3.heap.size:=d.size;have e9:=Qa d e4;have ea:=Qa d e5;have eb:=Qa d e6;have ec:=Qa d e7;have ed:=Qa d e8;have fj:=Qa d fc;have bq:=(d.frozen (p:=⟨w.heap.size+2,0,none⟩) z2).trans f20;have fk:=Qa d fe;have br:=(d.frozen (p:=⟨w.heap.size+2,1,none⟩) z2).trans f21;have fl:=Qa d ff;have bs:=(d.frozen (p:=⟨w.heap.size+2,2,none⟩) z2).trans f22;have fm:=Qa d fg;have bt:=(d.frozen (p:=⟨w.heap.size+2,3,none⟩) z2).trans f23;have fp:=Qa d fh;have bu:=(d.frozen (p:=⟨w.heap.size+2,4,none⟩) z2).trans f24;have fq:=Qa d fi;have bv:=(d.frozen (p:=⟨w.heap.size+2,5,none⟩) z2).trans f25;have z3:=Nl z2 d.size;clear e4 e5 e6 e7 e8 fc f20 fe f21 ff f22 fg f23 fh f24 fi f25;have dc:=Qa d b7;have dd:=Qa d d8;have de:=Qa d d9;have df:=Qa d da;have dg:=Qa d db;clear b7 d8 d9 da db;have F:=H4 hZ ct (Qc (Qc bh.out D.out) d) (Qc D.out d);clear hZ ct d CF hg D;refine Qi (fun W4 az=>?_)
 have f:Bl w3 W4:=by
  rw [az];with_reducible repeat' (first | exact Qe _ | refine Qh ?_ ?_ | refine Qb ?_)
  all_goals (dsimp only;omega)
 have b8:At W4 w3.heap.size 0 (.slice (Az g) q q):=by rw [az];simp [go_sem]
 have zq:=Bt b8;clear az;have ee:=Qa f e9;have ef:=Qa f ea;have eg:=Qa f eb;have eh:=Qa f ec;have ei:=Qa f ed;have ft:=Qa f fj;have bw:=(f.frozen (p:=⟨w.heap.size+2,0,none⟩) z3).trans bq;have fu:=Qa f fk;have bz:=(f.frozen (p:=⟨w.heap.size+2,1,none⟩) z3).trans br;have fv:=Qa f fl;have cd:=(f.frozen (p:=⟨w.heap.size+2,2,none⟩) z3).trans bs;have fw:=Qa f fm;have ce:=(f.frozen (p:=⟨w.heap.size+2,3,none⟩) z3).trans bt;have fx:=Qa f fp;have cf:=(f.frozen (p:=⟨w.heap.size+2,4,none⟩) z3).trans bu;have fy:=Qa f fq;have cg:=(f.frozen (p:=⟨w.heap.size+2,5,none⟩) z3).trans bv;have z4:=Nl z3 f.size;clear e9 ea eb ec ed fj bq fk br fl bs fm bt fp bu fq bv;have dh:=Qa f dc;have di:=Qa f dd;have dj:=Qa f de;have dk:=Qa f df;have dl:=Qa f dg;clear dc dd de df dg;have HB4:=Hd f;clear f;have h0:0<q:=by rw [HX.out.2.1];exact C.out.2.1.1
 obtain ⟨mx,a7⟩:∃ mx,mx=topP part q:=⟨_,rfl⟩;have Q:=Hd a7
 have CM:Hid (∀ V:World,Bl W4 V→Rt 20 #[.slice (Az g) q q] V (I mx)):=fun V hV=>by
  have gk:q≤300:=by rw [HX.out.2.1];exact C.out.2.2.2.1
  have:=Tryz.slices_Max_int g 0 q q ((List.range q).map part) V h0 ξ γ (fun j hj=>by
     have cx:j<q:=by simpa using hj
     rw [Nat.zero_add,Qa (Qc HB4.out hV) (F.out.1 j cx).1];simp [cx])
  refine this.mono ?_;rintro e w' ⟨rfl,rfl⟩;rw [List.take_of_length_le ξ];exact ⟨by rw [a7];rfl,Qe _⟩
 have g8:0≤mx∧mx≤299:=by
  have:=topP_bd F.out.2.1 (by rw [← HX.out.2.1];exact h0) C.out.2.2.2.1;rw [a7,HX.out.2.1];exact this
 clear a7;obtain ⟨gi,gj⟩:=g8;have zA:w.heap.size+1<W4.heap.size:=γ;obtain ⟨kc,kn⟩:=kcn W4;refine wk ?_;repeat (go_big_quiet_step ((go_at_call 20;exact Qf (CM.out _ (Kin.h _)))))
 refine wpQuiet_nil ?_;intro wq g9;obtain ⟨nq,ap⟩:=g9;have c:Bl W4 wq:=ap ▸ nq.h;clear ap nq kc kn CM;have af:=Qa c b8;clear b8;have J:=Qa c ee;have K:=Qa c ef;have N:=Qa c eg;have O:=Qa c eh;have P:=Qa c ei;have ai:=Qa c ft;have f50:=(c.frozen (p:=⟨w.heap.size+2,0,none⟩) z4).trans bw;have aj:=Qa c fu;have R:=(c.frozen (p:=⟨w.heap.size+2,1,none⟩) z4).trans bz;have ak:=Qa c fv;have T:=(c.frozen (p:=⟨w.heap.size+2,2,none⟩) z4).trans cd;have am:=Qa c fw;have U:=(c.frozen (p:=⟨w.heap.size+2,3,none⟩) z4).trans ce;have an:=Qa c fx;have X:=(c.frozen (p:=⟨w.heap.size+2,4,none⟩) z4).trans cf;have ao:=Qa c fy;have Y:=(c.frozen (p:=⟨w.heap.size+2,5,none⟩) z4).trans cg;have z5:=Nl z4 c.size;clear ee ef eg eh ei ft bw fu bz fv cd fw ce fx cf fy cg;have a8:=Qa c dh;have aa:=Qa c di;have ab:=Qa c dj;have ac:=Qa c dk;have ae:=Qa c dl;clear dh di dj dk dl;have E:=H3 (Qc F.out.2.2.1 (Qc HB4.out c)) (Qc F.out.2.2.2 (Qc HB4.out c)) (Qc HB4.out c);clear c;by_cases hlen:(hn:Int)=mx+1
 ·have HN:=Hd hlen
  have b5:0<hs.length∧hs.length≤300:=by
   have:=HX.out.2.2.1;omega
  obtain ⟨gh,oh,g6⟩:=row_some HX.out.2.2.2.2.2.1 b5.1;subst g6;have HH:=Hd b5;clear b5
  have CT:Hid (Rt 21 #[.slice (Ad gh oh) hn hc] wq (.bool (decide (¬ hs.Nodup)))):=by
   have:=twice_any wq (Ad gh oh) hc hs HH.out.1 HH.out.2 (HX.out.2.2.2.2.2.1.kept E.out.1);rw [← HX.out.2.2.1] at this;exact this
  by_cases u:hs.Nodup
  ·have e0:decide (¬ hs.Nodup)=false:=by simp [u]
   rw [e0] at CT;have HD:=Hd u;clear e0 u;go_upto_region 9 with (go_at_call 21;refine CT.out.mono ?_;rintro e w6 ⟨rfl,b⟩)
   have dm:=Qa b af;have ej:=Qa b J;have el:=Qa b K;have en:=Qa b N;have eo:=Qa b O;have ag:=Qa b P;have ba:=Qa b ai;have aq:=(b.frozen (p:=⟨w.heap.size+2,0,none⟩) z5).trans f50;have bb:=Qa b aj;have ar:=(b.frozen (p:=⟨w.heap.size+2,1,none⟩) z5).trans R;have bc:=Qa b ak;have au:=(b.frozen (p:=⟨w.heap.size+2,2,none⟩) z5).trans T;have be:=Qa b am;have av:=(b.frozen (p:=⟨w.heap.size+2,3,none⟩) z5).trans U;have bf:=Qa b an;have aw:=(b.frozen (p:=⟨w.heap.size+2,4,none⟩) z5).trans X;have bg:=Qa b ao;have ax:=(b.frozen (p:=⟨w.heap.size+2,5,none⟩) z5).trans Y;have z6:=Nl z5 b.size;clear J K N O P ai f50 aj R ak T am U an X ao Y;have gn:=Qa b a8;have gp:=Qa b aa;have gq:=Qa b ab;have gs:=Qa b ac;have gu:=Qa b ae;clear a8 aa ab ac ae;have r:=H3 (Qc E.out.1 b) (Qc E.out.2.1 b) (Qc E.out.2.2 b);have bi:=H2 dm ag;clear b CT af dm ag
   have CS:Hid (Cl 23 #[.agg #[.slice ad q cc,.map (some ra),.map (some rk),.slice (Az gm) q cm,.slice pa q pc],.agg #[I W,I H,.slice a m ca,.slice cb n A],.func (.func 22) #[] #[.pointer (Az (w.heap.size+1)),.pointer (Az w3.heap.size)]] w6 fun e w'=>StateOwn w6 w' W H n q zs ks M L (plcA (pls L M q)) (hgt hs (lbs part q)) e):=by
    have ay:=HP.out.2.kept r.out.2.1
    have cz:∀ i,i<L.length→part i<hs.length:=fun i hi=>by
     have e1:=topP_le (part:=part) hi;have e2:=HN.out;rw [Q.out,HX.out.2.1,HX.out.2.2.1] at e2;omega
    have g7:∀ j∈lbs part L.length,j<hs.length:=fun j hj=>by
     obtain ⟨i,hi,rfl⟩:=List.mem_map.1 hj;have e1:=cz i (by simpa using hi);have e2:=F.out.2.1.1 i (by simpa using hi);omega
    have:=state_own w6 W H a cb ca A n zs ks ad pa cc ra rk gm cm pc M L (pls L M L.length) (.func (.func 22) #[] #[.pointer (Az (w.heap.size+1)),.pointer (Az w3.heap.size)]) (hgt hs (lbs part L.length)) (HX.out.2.2.2.1.kept r.out.1) (HX.out.2.2.2.2.1.kept r.out.1) HX.out.2.2.2.2.2.2 HY.out.1 HY.out.2.1 HY.out.2.2.1 HY.out.2.2.2 (Yj _ _ _) ay.tr.1 ay.pl ay.mr C.out.2.1.1 C.out.2.2.2.1
     (fun V hV=>sortsN_of V L.length _ (hgt hs (lbs part L.length)) (fun W' Z x y hx hy=>orderCompare_any W' (w.heap.size+1) w3.heap.size gh oh hc g 0 q x y hs (lbs part L.length) ⟨by rw [← HX.out.2.2.1];exact Qa (Qc hV Z) bi.out.2,by rw [lbs_len,← HX.out.2.1];exact Qa (Qc hV Z) bi.out.1,HX.out.2.2.2.2.2.1.kept (Qc r.out.1 (Qc hV Z)),(zrow_nrow (by rw [← HX.out.2.1];exact F.out.1) F.out.2.1.1).kept (Qc r.out.2.2 (Qc hV Z))⟩ (by rw [lbs_len];exact hx) (by rw [lbs_len];exact hy) g7 (by rw [lbs_len];exact C.out.2.2.2.1) HH.out.2))
     (faces_dis HP.out.1 C.out.2.1 C.out.2.2.1 C.out.2.2.2.1 C.out.2.2.2.2 F.out.2.1 cz HD.out)
    rw [← HX.out.1,← HX.out.2.1] at this;exact this
   go_wp2_with (go_at_call 23;refine CS.out.mono ?_;rintro e w7 ⟨a1,k1,a2,k2,g1,c1,t1,u1,Hp,rfl,ch,ci,co,a6,cj,cu,o⟩;have s:=H7 ch ci co a6 cj cu o;have gv:=Qa o ba;have ga:=(o.frozen (p:=⟨w.heap.size+2,0,none⟩) z6).trans aq;have gw:=Qa o bb;have gb:=(o.frozen (p:=⟨w.heap.size+2,1,none⟩) z6).trans ar;have gx:=Qa o bc;have gc:=(o.frozen (p:=⟨w.heap.size+2,2,none⟩) z6).trans au;have gy:=Qa o be;have gd:=(o.frozen (p:=⟨w.heap.size+2,3,none⟩) z6).trans av;have gz:=Qa o bf;have ge:=(o.frozen (p:=⟨w.heap.size+2,4,none⟩) z6).trans aw;have h7:=Qa o bg;have gg:=(o.frozen (p:=⟨w.heap.size+2,5,none⟩) z6).trans ax;have z7:=Nl z6 o.size;clear  ba aq bb ar bc au be av bf aw bg ax;clear ch ci co a6 cj cu o)
   refine bodyPost_ret (v:=.tuple #[.agg #[I W,I H,.slice a1 zs.length k1,.slice a2 n k2,.slice (Az g1) q c1,.slice t1 Hp.length u1],I 0]) (by simp [results,Tryz.results11,go_sem, *]) rfl ⟨M,part,HP.out.1,F.out.2.1, ?_,Or.inr (Or.inr ⟨?_,HD.out,_,rfl,a1,k1,a2,k2,g1,c1,t1,u1,Hp,rfl, ?_, ?_, ?_, ?_,s.out.2.2.2.2.1, ?_, ?_⟩)⟩
   ·with_reducible repeat' (first | exact Qc r.out.1 s.out.2.2.2.2.2.2 | refine Qh ?_ ?_ | refine Qg ?_ | refine Qb ?_)
    all_goals (dsimp only;omega)
   ·rw [← Q.out,← HX.out.2.2.1];exact HN.out
   ·refine own_low (b1:=w6.heap.size) ?_ γ;with_reducible repeat (refine own_set ?_ γ)
    exact s.out.1
   ·refine own_low (b1:=w6.heap.size) ?_ γ;with_reducible repeat (refine own_set ?_ γ)
    exact s.out.2.1
   ·have a6:=s.out.2.2.2.1;with_reducible repeat (refine MRow.set ?_ γ)
    exact s.out.2.2.1
   ·have a6:=s.out.2.2.2.1;omega
   ·refine SRowF.low (base:=w6.heap.size) ?_ γ;with_reducible repeat (refine SRowF.set ?_ θ)
    exact s.out.2.2.2.2.2.1
   ·with_reducible repeat' (first | exact Qc r.out.1 s.out.2.2.2.2.2.2 | refine Qh ?_ ?_ | refine Qg ?_ | refine Qb ?_)
    all_goals (dsimp only;omega)
  ·have e0:decide (¬ hs.Nodup)=true:=by simp [u]
   rw [e0] at CT;have HD:=Hd u;clear e0 u;go_upto_region 8 with (go_at_call 21;refine CT.out.mono ?_;rintro e w6 ⟨rfl,b⟩)
   have ej:=Qa b J;have el:=Qa b K;have en:=Qa b N;have eo:=Qa b O;have ag:=Qa b P;have ba:=Qa b ai;have aq:=(b.frozen (p:=⟨w.heap.size+2,0,none⟩) z5).trans f50;have bb:=Qa b aj;have ar:=(b.frozen (p:=⟨w.heap.size+2,1,none⟩) z5).trans R;have bc:=Qa b ak;have au:=(b.frozen (p:=⟨w.heap.size+2,2,none⟩) z5).trans T;have be:=Qa b am;have av:=(b.frozen (p:=⟨w.heap.size+2,3,none⟩) z5).trans U;have bf:=Qa b an;have aw:=(b.frozen (p:=⟨w.heap.size+2,4,none⟩) z5).trans X;have bg:=Qa b ao;have ax:=(b.frozen (p:=⟨w.heap.size+2,5,none⟩) z5).trans Y;have z6:=Nl z5 b.size;clear J K N O P ai f50 aj R ak T am U an X ao Y;have r:=Hd (Qc E.out.1 b);clear a8 aa ab ac ae ej el en eo ag af b CT;go_wp2;refine bodyPost_ret (v:=.tuple #[.agg #[I 0,I 0,SN,SN,SN,SN],I 6]) (by simp [results,Tryz.results11,go_sem, *]) rfl ⟨M,part,HP.out.1,F.out.2.1, ?_,Or.inr (Or.inl ⟨?_,HD.out,rfl⟩)⟩
   ·with_reducible repeat' (first | exact r.out | refine Qh ?_ ?_ | refine Qg ?_ | refine Qb ?_)
    all_goals (dsimp only;omega)
   ·rw [← Q.out,← HX.out.2.2.1];exact HN.out
 ·have HN:=Hd hlen;clear a8 aa ab ac ae J K N O P af;go_wp2;refine bodyPost_ret (v:=.tuple #[.agg #[I 0,I 0,SN,SN,SN,SN],I 2]) (by simp [results,Tryz.results11,go_sem, *]) rfl ⟨M,part,HP.out.1,F.out.2.1, ?_,Or.inl ⟨?_,rfl⟩⟩
  ·with_reducible repeat' (first | exact E.out.1 | refine Qh ?_ ?_ | refine Qg ?_ | refine Qb ?_)
   all_goals (dsimp only;omega)
  ·rw [← Q.out,← HX.out.2.2.1];exact HN.out
theorem lay_any (W H b off c n a j:Nat) (f o:Option Addr) (zs d hs:List Int) (w:World) (hr:Row w (Ad b off) zs) (q:1≤W∧W≤8) (r:1≤H∧H≤8) (hl:zs.length=W*H) (K:maskB zs=true) (C:Row w f d) (D:d.length=n*5) (l:n≤3518437208883) (s:f=none∨∃ p off,f=Ad p off) (m:Steps w) (z:Joined (ty zs W H)) (G:∀ i,i<n→CrOk (ty zs W H) d i) (J:Row w o hs) :
  Cl 11 #[.agg #[I (W:Int),I (H:Int),.slice (Ad b off) zs.length c,.slice f n a],.slice o hs.length j] w fun e w'=>LaidTo w w' W H n (ty zs W H).length zs d hs (ty zs W H) (kdn d n) e∨((¬ ∃ N,Cons (kdn d n) (ty zs W H) N)∧e=.returned (.tuple #[.agg #[I 0,I 0,SN,SN,SN,SN],I 8])∧Bl w w'):=by
 have A:∀ V:World,Bl w V→Cl 18 #[.agg #[I (W:Int),I (H:Int),.slice (Ad b off) zs.length c,.slice f n a]] V fun e w'=>PlacedTo (kdn d n) (ty zs W H) V w' e:=fun V g=>placed_yes W H b off c n a f zs d V (hr.kept g) q r hl K (C.kept g) D l (m.kept g) z G;have k:(ty zs W H).length≤300:=by have:=Yu zs W H q.2;omega
 have t:zs.length≤17592186044416:=by rw [hl];exact Nt (Nat.mul_le_mul q.2 r.2) ψ
 by_cases hN:∃ N,Cons (kdn d n) (ty zs W H) N
 ·refine (lay_flat w W H (Ad b off) f o zs.length c n a hs.length j (ty zs W H).length zs d hs (ty zs W H) (kdn d n) (fun V g=>(A V g).mono ?_) rfl rfl rfl hr C J D t l (Or.inr ⟨b,off,rfl⟩) s m z (Yl zs W H) k (Kg (zs:=zs) q.2 r.2)).mono fun e w' h=>Or.inl h;rintro e w' ⟨hb,⟨M,u,v,E,F,y,x,pa,pc,j,B,hp⟩ | ⟨h1,_⟩⟩
  ·exact ⟨M,u,v,E,F,y,x,pa,pc,j,B,hp,hb⟩
  ·exact absurd hN h1
 ·refine (lay_tear w W H (Ad b off) f o zs.length c n a hs.length j (fun V g=>(A V g).mono ?_)).mono fun e w' h=>Or.inr ⟨hN,h⟩;rintro e w' ⟨hb,⟨M,u,v,E,F,y,x,pa,pc,j,B,hp⟩ | ⟨_,h1⟩⟩
  ·exact absurd ⟨M,j⟩ hN
  ·exact ⟨h1,hb⟩
end Go.Proofs.YtjkjpopghkeibaaGreatDoor
