/- A part of it. -/
import Derived.Test.YtnpboeodhpenmaaGreatDoorQlah
set_option maxRecDepth 100000
set_option maxHeartbeats 40000000
namespace Go.Proofs.YtnpboeodhpenmaaGreatDoor
open Go.RowKit
variable {w:World} {g i j n v:Nat} {l:List T3} {a:Option Addr}
attribute [local go_sem ↓] Go.wp_at_zero Go.wp_at_succ
def WRow (w:World) (g n:Nat) (who:Nat→Nat):Prop := ∀ i,i<n→At w g i (I (who i:Int))∧Fn w g i
theorem WRow.kept {c:World} {a:Nat→Nat} (h:WRow w g n a) (b:Bl w c):WRow c g n a:=fun i hi =>
 ⟨Qa b (h i hi).1,(b.frozen (p:=⟨g,i,none⟩) (bk (h i hi).1)).trans (h i hi).2⟩
def upd (who:Nat→Nat) (i v:Nat):Nat→Nat:=fun j=>if j=i then v else who j
theorem WRow.set {a:Nat→Nat} (h:WRow w g n a) (hi:i<n):WRow (w.setCell ⟨g,i,none⟩ (I (v:Int))) g n (upd a i v):=fun j b=>by
 refine ⟨?_,by show World.frozen? _ _=_;rw [Fz];exact (h j b).2⟩;by_cases e:j=i
 ·subst e;simp only [upd,if_true];exact Cs _ _ _ (h j b).1
 ·simp only [upd,if_neg e];exact (Co _ _ _ _ (by intro c;injection c with _ h2;exact e h2.symm)).trans (h j b).1
def TRB (w:World) (a:Option Addr) (l:List T3) (g:Nat):Prop :=
 ∀ i (h:i<l.length),∃ ga,a=Az ga∧ga≠g∧At w ga (i*3) (I l[i].1)∧At w ga (i*3+1) (I l[i].2.1)∧At w ga (i*3+2) (I l[i].2.2)
theorem TRB.row (h:TRB w a l g):TRow w a l:=fun i hi=>by
 obtain ⟨b,e,_,c⟩:=h i hi;exact ⟨b,e,c⟩
theorem TRB.kept {c:World} (h:TRB w a l g) (b:Bl w c):TRB c a l g:=fun i hi=>by
 obtain ⟨d,e,f,h0,h1,h2⟩:=h i hi;exact ⟨d,e,f,Qa b h0,Qa b h1,Qa b h2⟩
theorem TRB.set {v:Value} (h:TRB w a l g):TRB (w.setCell ⟨g,i,none⟩ v) a l g:=fun j c=>by
 obtain ⟨b,e,d,h0,h1,h2⟩:=h j c;exact ⟨b,e,d,Qo h0 θ,Qo h1 θ,Qo h2 θ⟩
theorem row_trb (h:TRow w a l) (hg:w.heap.size≤g):TRB w a l g:=fun i hi=>by
 obtain ⟨b,e,h0,h1,h2⟩:=h i hi;have:=bk h0;exact ⟨b,e,by dsimp only at this;omega,h0,h1,h2⟩
def Inv (l:List T3) (who:Nat→Nat):Prop := ∀ i (hi:i<l.length),who i≤i∧∃ hw:who i<l.length,Reach l l[i] l[who i]
def Ok (l:List T3) (who:Nat→Nat) (i e:Nat):Prop := ∀ (hi:i<l.length) j (_:j<l.length),plc l (acr l[i] (edg l[i] e))=(j:Int)→who i≤who j
def sumW (who:Nat→Nat):Nat→Nat
 | 0=>0
 | n+1=>sumW who n+who n
theorem inv_id (l:List T3):Inv l (fun i=>i):=fun _ hi=>⟨Nr _,hi,.here (Lm hi)⟩
theorem sum_far {a:Nat→Nat} (n:Nat) (h:n≤i):sumW (upd a i v) n=sumW a n:=by
 induction n with
 | zero=>rfl
 | succ n ih =>
  have e:upd a i v n=a n:=if_neg γ;show sumW (upd a i v) n+upd a i v n=sumW a n+a n
  rw [ih γ,e]
theorem sum_upd {a:Nat→Nat} (hv:v<a i) (n:Nat) (h:i<n):sumW (upd a i v) n<sumW a n:=by
 induction n with
 | zero=>omega
 | succ n ih =>
  show sumW (upd a i v) n+upd a i v n<sumW a n+a n
  by_cases e:i=n
  ·subst e;have e2:upd a i v i=v:=if_pos rfl;rw [sum_far i (Nr _),e2];omega
  ·have e2:upd a i v n=a n:=if_neg γ;have:=ih γ;rw [e2];omega
theorem plc_get {t:T3} (a:j<l.length) (h:plc l t=(j:Int)):l[j]=t:=by
 unfold plc at h;split at h
 ·rename_i hm
  have e:l.idxOf t=j:=γ;subst e;exact List.getElem_idxOf a
 ·omega
theorem plc_bd (l:List T3) (t:T3):plc l t=-1∨∃ j:Nat,j<l.length∧plc l t=(j:Int):=by
 unfold plc;split
 ·rename_i hm
  exact .inr ⟨_,List.idxOf_lt_length_of_mem hm,rfl⟩
 ·exact .inl rfl
theorem inv_upd {a:Nat→Nat} {e:Nat} (b:Inv l a) (hi:i<l.length) (c:j<l.length) (g:Kd l[i]) (hp:plc l (acr l[i] (edg l[i] e))=(j:Int)) (k:a j<a i):Inv l (upd a i (a j)):=by
 intro m d;by_cases h:m=i
 ·subst h;simp only [upd,if_true];obtain ⟨h1,_,_⟩:=b m d;obtain ⟨_,n,hr⟩:=b j c
  have f:Adj l[m] l[j]:=by
   have h3:=Zf g (Jc l[m] e);rw [plc_get c hp];exact ⟨h3.2.1,_,Jc _ _,h3.1⟩
  exact ⟨γ,n,((Reach.here (Lm d)).step (Lm c) f).trans hr⟩
 ·simp only [upd,if_neg h];exact b m d
theorem fresh_d {v a:World} (hg:v.heap.size=g) (b:Below ((v.alloc (.cells #[I 0,I 0,I 0] 51)).drew).heap.size ((v.alloc (.cells #[I 0,I 0,I 0] 51)).drew) a):At a g 0 (I 0)∧At a g 1 (I 0)∧At a g 2 (I 0)∧Fn a g 0∧Fn a g 1∧Fn a g 2∧g<a.heap.size:=by
 subst hg;have c0:At a v.heap.size 0 (I 0):=Qa b δ;refine ⟨c0,Qa b δ,Qa b δ, ?_, ?_, ?_,bk c0⟩
 all_goals exact (b.frozen ξ).trans δ
theorem Twl.set {v0 e f v3 v4 v5 i j k v9 a b:Int} (h:Twl w g v0 e f v3 v4 v5 i j k v9 a b) {p:Addr} {u:Value} (hp:g≠p.block):Twl (w.setCell p u) g v0 e f v3 v4 v5 i j k v9 a b:=by
 obtain ⟨h0,h1,h2,h3,h4,h5,h6,l,m,n,c,d⟩:=h;exact ⟨Qo h0 hp,Qo h1 hp,Qo h2 hp,Qo h3 hp,Qo h4 hp,Qo h5 hp,Qo h6 hp,Qo l hp,Qo m hp,Qo n hp,Qo c hp,Qo d hp⟩
theorem Xh {p a:Addr} {u v:Value} (h:w.cell? a=some v) (b:a.block≠p.block):(w.setCell p u).cell? a=some v:=Qo h b
def GWp (w wx:World) (a:Option Addr) (L:List T3) (g:Nat) (who:Nat→Nat):Prop:=TRB wx a L g∧WRow wx g L.length who∧Bl w wx
theorem GWp.kept {wr d:World} {L:List T3} {b:Nat→Nat} (h:GWp w wr a L g b) (c:Bl wr d):GWp w d a L g b:=⟨h.1.kept c,h.2.1.kept c,Qc h.2.2 c⟩
theorem edge_of (x y k:Int) (e a:Nat) (h:a<3):∃ E0 E1 E2 E3:Int,Hid (edg (x,y,k) a=(E0,E1,E2,E3)∧hasB x y k E0 E1 E2 E3=true∧∀ b:World,Twl b e (ue0 x y k) (ue1 x y k) (ue2 x y k) (ue3 x y k) (ue4 x y k) (ue5 x y k) (ue6 x y k) (ue7 x y k) (ue8 x y k) (ue9 x y k) (ue10 x y k) (ue11 x y k)→At b e (a*4) (I E0)∧At b e (a*4+1) (I E1)∧At b e (a*4+2) (I E2)∧At b e (a*4+3) (I E3)):=by
 have r:a=0∨a=1∨a=2:=γ;rcases r with rfl | rfl | rfl
 ·exact ⟨_,_,_,_,⟨rfl,by simp [hasB,e0,sameB],fun b ⟨f,g,i,j,l,m,n,o,p,q,c,d⟩=>⟨f,g,i,j⟩⟩⟩
 ·exact ⟨_,_,_,_,⟨rfl,by simp [hasB,e1,sameB],fun b ⟨f,g,i,j,l,m,n,o,p,q,c,d⟩=>⟨l,m,n,o⟩⟩⟩
 ·exact ⟨_,_,_,_,⟨rfl,by simp [hasB,e2,sameB],fun b ⟨f,g,i,j,l,m,n,o,p,q,c,d⟩=>⟨p,q,c,d⟩⟩⟩
theorem groups_any (W H b off aj:Nat) (zs:List Int) (c:Value) (w:World) (hr:Row w (Ad b off) zs) (hW:1≤W∧W≤8) (hH:1≤H∧H≤8) (hl:zs.length=W*H) (hm:maskB zs=true) :
  Cl 220 #[.agg #[I (W:Int),I (H:Int),.slice (Ad b off) zs.length aj,c],.bool true] w fun e w'=>∃ g f,e=.returned (.slice (Az g) (ty zs W H).length (ty zs W H).length)∧WRow w' g (ty zs W H).length f∧Inv (ty zs W H) f∧(∀ i e,i<(ty zs W H).length→e<3→Ok (ty zs W H) f i e)∧Bl w w':=by
 have af:=Hd (fun (C:World) hW'=>Yv W H b off aj zs c C (hr.kept hW') hW hH hl hm);have ag:Hid (∀ t∈ty zs W H,(0≤t.1∧t.1≤8)∧(0≤t.2.1∧t.2.1≤8)∧(0≤t.2.2∧t.2.2≤3)):=Kg hW.2 hH.2;have Q:(ty zs W H).length≤256:=by have:=Yu zs W H hW.2;omega
 obtain ⟨i3,aw,ax,ay,az⟩:=info_parts inf3;have V:=H4 aw ax ay az;clear hr hl hm hW hH aw ax ay az;obtain ⟨L,hL⟩:∃ L,L=ty zs W H:=⟨_,rfl⟩;rw [← hL] at af ag Q ⊢;clear hL;go_enter Tryz.func220,Tryz.ntmps220
 go_wp2_with (first
  | (go_at_call 51;refine (af.out _ Θ).mono ?_;rintro e w1 ⟨v,rfl,ho,l⟩;have hB:Bl w w1:=Qc β1 l;obtain ⟨a,ca,rfl,hT⟩:=Xc ho;have HW:=H2 hT hB;clear hB hT ho l)
  | (at_make;refine wpList_make_full _ rfl (.tmp 18) (.tmp 18) 22 rfl w1.heap.size 3 i3 (I 0) 1 Tryz.underlying22 V.out.1 V.out.2.1 V.out.2.2.1 .i64 .i64 _ _ L.length rfl rfl rfl rfl ?b2 ?b3 ?b4 ?mk))
 case b2 =>
  rw [V.out.2.2.2];omega
 case b3 =>
  unfold maxLen;omega
 case b4=>exact Nr _
 case mk =>
  intro w2 ho hg;have N:Bl w1 w2:=(Below.refl _ _).grown hg (Nr _) (fun k h=>by cases h)
  have hF:∀ i,i<L.length→(∃ u,At w2 w1.heap.size i u)∧Fn w2 w1.heap.size i:=fun i hi=>by
   have h1:=ho.1;have h2:=ho.cellAt i γ;exact ⟨⟨_,h2.trans (List.getElem?_eq_getElem γ)⟩,ho.frozenAt i⟩
  obtain ⟨g,P⟩:∃ g,g=w1.heap.size:=⟨_,rfl⟩;have HF:Hid (TRB w2 a L g∧(∀ i,i<L.length→(∃ u,At w2 g i u)∧Fn w2 g i)∧Bl w w2∧w.heap.size≤g):=⟨(row_trb HW.out.1 γ).kept N,by rw [P];exact hF,Qc HW.out.2 N,by rw [P];exact HW.out.2.size⟩;rw [← P];clear hF N ho hg P HW;go_wp2;go_loopg [7] L.length (fun gk s7 D=>∃ i:Nat,i≤L.length∧gk=L.length - i∧s7=I (i:Int)∧TRB D a L g∧(∀ j,j<L.length→(∃ u,At D g j u)∧Fn D g j)∧(∀ j,j<i→At D g j (I (j:Int)))∧Bl w D)
  case atStart=>exact ⟨0,γ,rfl,rfl,HF.out.1,HF.out.2.1,fun j h=>by omega,HF.out.2.2.1⟩
  case round =>
   obtain ⟨i,hi,rfl,rfl,hT,hC,hD,hB⟩:=hrel;have M:=H4 hT hC hD hB;clear hT hC hD hB;by_cases h1:i<L.length
   ·have i1:(i:Int)<(L.length:Int):=γ;have i0:(0:Int)≤(i:Int):=γ;obtain ⟨⟨u,hu⟩,hf⟩:=M.out.2.1 i h1;go_wp2;go_roundg (L.length - (i+1))
    case measure=>omega
    case rel =>
     refine ⟨i+1,γ,rfl,σ,M.out.1.set,fun j hj=>?_,fun j hj=>?_,Qh M.out.2.2.2 HF.out.2.2.2⟩
     ·refine ⟨?_,by show World.frozen? _ _=_;rw [Fz];exact (M.out.2.1 j hj).2⟩;by_cases e:j=i
      ·subst e;exact ⟨_,Cs _ _ _ hu⟩
      ·obtain ⟨u',bh⟩:=(M.out.2.1 j hj).1;exact ⟨u',(Co _ _ _ _ (by intro hh;injection hh with _ h2;exact e h2.symm)).trans bh⟩
     ·by_cases e:j=i
      ·subst e;exact Cs _ _ _ hu
      ·exact (Co _ _ _ _ (by intro hh;injection hh with _ h2;exact e h2.symm)).trans (M.out.2.2.1 j γ)
   ·have i1:¬ (i:Int)<(L.length:Int):=γ;have s:Hid (GWp w wr a L g (fun j=>j)):=⟨M.out.1,fun j hj=>⟨M.out.2.2.1 j γ,(M.out.2.1 j hj).2⟩,M.out.2.2.2⟩;have bf:w.heap.size≤g:=HF.out.2.2.2;clear M HF;go_wp2;go_loopg [8] (sumW (fun j=>j) L.length+1) (fun gk s8 D=>∃ (f:Nat→Nat) (A:Bool),s8=.bool A∧gk=sumW f L.length+(if A=true then 1 else 0)∧Inv L f∧(A=false→∀ i e,i<L.length→e<3→Ok L f i e)∧GWp w D a L g f)
    case atStart=>exact ⟨fun j=>j,true,rfl,rfl,inv_id L,ξ,s.out⟩
    case round =>
     clear s;obtain ⟨f,A,rfl,rfl,Z,hO,Y⟩:=hrel;have n:=Hd Z;have HO:=Hd hO;have s:=Hd Y;clear Z hO Y
     cases A
     ·go_wp2;go_ret;exact ⟨g,rfl,f,s.out.2.1,n.out,HO.out ξ,s.out.2.2⟩
     ·obtain ⟨S0,bb⟩:∃ S,S=sumW f L.length:=⟨_,rfl⟩;have ba:=Hd bb;go_wp2;go_loopg [8,9] L.length (fun gk s8 s9 D=>∃ (i:Nat) (f:Nat→Nat) (A:Bool),i≤L.length∧gk=L.length - i∧s8=.bool A∧s9=I (i:Int)∧Inv L f∧(sumW f L.length≤S0∧(A=true→sumW f L.length<S0))∧(A=false→∀ R e,R<i→e<3→Ok L f R e)∧GWp w D a L g f)
      case atStart=>exact ⟨0,f,false,γ,rfl,rfl,rfl,n.out,⟨γ,ξ⟩,fun _ R e h=>by omega,s.out⟩
      case round =>
       clear s n HO;obtain ⟨i,T,A,hi,rfl,rfl,rfl,Z,hS,hO,Y⟩:=hrel;have n:=H3 Z hS hO;have s:=Hd Y;clear Z hS hO Y;by_cases h1:i<L.length
       ·have i1:(i:Int)<(L.length:Int):=γ;have i0:(0:Int)≤(i:Int):=γ;obtain ⟨E,rfl,bw,t0,t1,t2⟩:=s.out.1 i h1;have J:=ag.out _ (Lm h1);have zg:g<wr.heap.size:=bk (s.out.2.1 i h1).1;obtain ⟨t,ht⟩:∃ t,t=L[i]:=⟨_,rfl⟩;obtain ⟨x,y,k⟩:=t;rw [← ht] at t0 t1 t2 J;dsimp only at t0 t1 t2 J;have HE:=Hd ht;have ai:Hid (triB x y k=true∧Kd L[i]):=⟨by simp [triB];omega,by rw [← ht];exact J.2.2⟩;have b9:Hid (∀ C:World,Cl 123 #[.agg #[I x,I y,I k]] C fun e w'=>∃ g,e=.returned (.slice (Az g) 3 3)∧C.heap.size≤g∧Twl w' g (ue0 x y k) (ue1 x y k) (ue2 x y k) (ue3 x y k) (ue4 x y k) (ue5 x y k) (ue6 x y k) (ue7 x y k) (ue8 x y k) (ue9 x y k) (ue10 x y k) (ue11 x y k)∧Bl C w'):=fun C=>Xs x y k C γ γ γ γ J.2.2.1 J.2.2.2;clear ht J;go_wp2_with (go_at_call 123;refine (b9.out _).mono ?_;rintro e w3 ⟨F,rfl,be,hM,l⟩;have a6:=H2 (s.out.kept l) hM;have P:g<F:=γ;clear be hM l)
        go_loopg [8,11] 3 (fun gk s8 bn D=>∃ (m:Nat) (f:Nat→Nat) (A:Bool),m≤3∧gk=3 - m∧s8=.bool A∧bn=I (m:Int)∧Inv L f∧(sumW f L.length≤S0∧(A=true→sumW f L.length<S0))∧(A=false→(∀ R e,R<i→e<3→Ok L f R e)∧∀ e,e<m→Ok L f i e)∧GWp w D (Az E) L g f∧Twl D F (ue0 x y k) (ue1 x y k) (ue2 x y k) (ue3 x y k) (ue4 x y k) (ue5 x y k) (ue6 x y k) (ue7 x y k) (ue8 x y k) (ue9 x y k) (ue10 x y k) (ue11 x y k))
        case atStart=>exact ⟨0,T,A,γ,rfl,rfl,rfl,n.out.1,n.out.2.1,fun h=>⟨n.out.2.2 h,fun e h=>by omega⟩,a6.out.1,a6.out.2⟩
        case round =>
         clear s a6 n t0 t1 t2 zg;obtain ⟨m,d,aa,bv,rfl,rfl,rfl,Z,hS,hO,Y,av⟩:=hrel;have n:=H3 Z hS hO;have s:=H2 Y av;clear Z hS hO Y av;by_cases hk3:m<3
         ·have k1:(m:Int)<3:=γ;have k0:(0:Int)≤(m:Int):=γ;obtain ⟨o,p,q,E3,a2⟩:=edge_of x y k F m hk3;obtain ⟨bu,ea,bq,t0,t1,t2⟩:=s.out.1.1 i h1;obtain ⟨m0,m1,m2,m3⟩:=a2.out.2.2 _ s.out.2;simp only [Option.some.injEq,Addr.mk.injEq,and_true] at ea;subst ea;rw [← HE.out] at t0 t1 t2;dsimp only at t0 t1 t2;have zt:=Bt t0;have ze:=Bt m0;go_wp2;go_cut [12,13] (fun sa sb D=>∃ z:Nat,sa=.pointer (Az z)∧sb=.bool true∧Tr D z (acX x y k o p q E3) (acY x y k o p q E3) (acK x y k o p q E3)∧Bl wr D)
          case first =>
           go_region_held3 (fun w'=>At w' E (i*3) (I x)∧At w' E (i*3+1) (I y)∧At w' E (i*3+2) (I k)∧At w' F (m*4) (I o)∧At w' F (m*4+1) (I p)∧At w' F (m*4+2) (I q)∧At w' F (m*4+3) (I E3))
            ((refine ⟨?_, ?_, ?_, ?_, ?_, ?_, ?_⟩ <;> (repeat' (first | (with_reducible assumption) | (with_reducible refine Xh ?_ ?_) | (dsimp only;omega) | (simp [go_sem];done) | (with_reducible refine Qk ?_) | (with_reducible refine Qq ?_)))))
            ((go_at_call 124;refine (Vm _ _ _ _ _ _ _ _ ai.out.1 a2.out.2.1).mono ?_;rintro e w8 ⟨rfl,l⟩;have ae:At w8 E (i*3) (I x):=Qa l ζ;have bo:At w8 E (i*3+1) (I y):=Qa l ζ;have bp:At w8 E (i*3+2) (I k):=Qa l ζ;have ad:At w8 F (m*4) (I o):=Qa l ζ;have bi:At w8 F (m*4+1) (I p):=Qa l ζ;have bj:At w8 F (m*4+2) (I q):=Qa l ζ;have bm:At w8 F (m*4+3) (I E3):=Qa l ζ;(first | (have O:=fresh_a (g:=wr.heap.size) rfl l;obtain ⟨ak,am,an,ao,ap,aq,ar⟩:=O) | (have O:=fresh_d (g:=wr.heap.size) rfl l;obtain ⟨ak,am,an,ao,ap,aq,ar⟩:=O) | (have O:=fresh_dd (g:=wr.heap.size) rfl l;obtain ⟨ak,am,an,ao,ap,aq,ar⟩:=O) | skip);have hq:Bl wr w8:=(by with_reducible (first | exact l | exact Jb l | exact Jb (Jb l) | exact Qc β1 l | exact Qc (Qg β1) l | exact Qc (Qb (Qg (Qe _))) l | exact Qc (Qg (Qb (Qg (Qe _)))) l));have HQ:=Hd hq;have bz:=Bt ae;have cb:=Bt ad;clear l hq))
           all_goals
            go_wp2;go_meet
            case rel =>
             refine ⟨_,rfl,rfl, ?_, ?_⟩
             ·first | (simp [Tr,go_sem];done) | (simp [Tr,go_sem, *];done)
             ·with_reducible repeat' (first | exact HQ.out | refine Qh ?_ ?_ | refine Qb ?_ | refine Qg ?_)
              all_goals (first | omega | (dsimp only;omega) | (simp;done))
          case rest =>
           obtain ⟨z,rfl,rfl,au,ab⟩:=hcut;have G:=H2 (s.out.1.kept ab) (s.out.2.kept ab);have a8:=Hd au;clear au ab s t0 t1 t2 m0 m1 m2 m3 zt ze;obtain ⟨n0,n1,n2⟩:=a8.out;have zn:=Bt n0
           have ah:Hid (plc L (acr L[i] (edg L[i] m))=plc L ((acX x y k o p q E3),(acY x y k o p q E3),(acK x y k o p q E3))):=by
            show plc L (acr L[i] (edg L[i] m))=plc L ((acX x y k o p q E3),(acY x y k o p q E3),(acK x y k o p q E3))
            rw [← HE.out,a2.out.1];rfl
           rcases plc_bd L ((acX x y k o p q E3),(acY x y k o p q E3),(acK x y k o p q E3)) with hp | ⟨j,hj,hp⟩
           ·have K:Hid (∀ C:World,TRow C (Az E) L→Rt 53 #[.slice (Az E) L.length ca,.agg #[I (acX x y k o p q E3),I (acY x y k o p q E3),I (acK x y k o p q E3)]] C (I (-1))):=fun C hT=>hp ▸ Xp _ ca L _ _ _ C hT Q
            have a7:Hid (Ok L d i m):=fun ac j' bg hq=>by
             rw [ah.out,hp] at hq;omega
            clear hp;go_wp2;go_quiet (fail)
            generalize hwe:World.drewN wc _=we;have X:At we z 0 (I (acX x y k o p q E3)):=by rw [← hwe];exact n0
            have b5:At we z 1 (I (acY x y k o p q E3)):=by rw [← hwe];exact n1
            have b6:At we z 2 (I (acK x y k o p q E3)):=by rw [← hwe];exact n2
            have b8:=Bt X
            have B:Hid (GWp w we (Az E) L g d∧Twl we F (ue0 x y k) (ue1 x y k) (ue2 x y k) (ue3 x y k) (ue4 x y k) (ue5 x y k) (ue6 x y k) (ue7 x y k) (ue8 x y k) (ue9 x y k) (ue10 x y k) (ue11 x y k)):=by
             rw [← hwe];exact ⟨G.out.1.kept (Qr (Qe _)),G.out.2.kept (Qr (Qe _))⟩
            clear hwe G n0 n1 n2 zn a8;go_wp2_with (go_at_call 53;refine (K.out _ (B.out.1.1.row)).mono ?_;rintro e b7 ⟨rfl,l⟩;have r:=H2 (B.out.1.kept l) (B.out.2.kept l);clear l)
            go_quiet (fail)
            go_wp2;go_roundg (3 - (m+1))
            case measure=>omega
            case rel =>
             refine ⟨m+1,d,aa,γ,rfl,rfl,σ,n.out.1,n.out.2.1,fun h=>⟨(n.out.2.2 h).1,fun e' bc=>?_⟩,r.out.1.kept (Qr (Qe _)),r.out.2.kept (Qr (Qe _))⟩;by_cases ee:e'=m
             ·subst ee;exact a7.out
             ·exact (n.out.2.2 h).2 e' γ
           ·have K:Hid (∀ C:World,TRow C (Az E) L→Rt 53 #[.slice (Az E) L.length ca,.agg #[I (acX x y k o p q E3),I (acY x y k o p q E3),I (acK x y k o p q E3)]] C (I (j:Int))):=fun C hT=>hp ▸ Xp _ ca L _ _ _ C hT Q;have HP:=Hd (ah.out.trans hp);have j1:(j:Int)<(L.length:Int):=γ;have j0:(0:Int)≤(j:Int):=γ;clear hp;go_wp2;go_quiet (fail)
            generalize hwe:World.drewN wc _=we;have X:At we z 0 (I (acX x y k o p q E3)):=by rw [← hwe];exact n0
            have b5:At we z 1 (I (acY x y k o p q E3)):=by rw [← hwe];exact n1
            have b6:At we z 2 (I (acK x y k o p q E3)):=by rw [← hwe];exact n2
            have b8:=Bt X
            have B:Hid (GWp w we (Az E) L g d∧Twl we F (ue0 x y k) (ue1 x y k) (ue2 x y k) (ue3 x y k) (ue4 x y k) (ue5 x y k) (ue6 x y k) (ue7 x y k) (ue8 x y k) (ue9 x y k) (ue10 x y k) (ue11 x y k)):=by
             rw [← hwe];exact ⟨G.out.1.kept (Qr (Qe _)),G.out.2.kept (Qr (Qe _))⟩
            clear hwe G n0 n1 n2 zn a8;go_wp2_with (go_at_call 53;refine (K.out _ (B.out.1.1.row)).mono ?_;rintro e b7 ⟨rfl,l⟩;have r:=H2 (B.out.1.kept l) (B.out.2.kept l);clear l)
            obtain ⟨ci,fi⟩:=r.out.1.2.1 i h1;obtain ⟨cj,fj⟩:=r.out.1.2.1 j hj;by_cases hlt:d j<d i
            ·have q1:(d j:Int)<(d i:Int):=γ;go_quiet (fail)
             generalize hwd:World.drewN b7 _=wd;have br:At wd g i (I (d i:Int)):=by rw [← hwd];exact ci
             have bs:At wd g j (I (d j:Int)):=by rw [← hwd];exact cj
             have bt:wd.frozen? ⟨g,i,none⟩=false:=by rw [← hwd];exact fi
             have U:Hid (GWp w wd (Az E) L g d∧Twl wd F (ue0 x y k) (ue1 x y k) (ue2 x y k) (ue3 x y k) (ue4 x y k) (ue5 x y k) (ue6 x y k) (ue7 x y k) (ue8 x y k) (ue9 x y k) (ue10 x y k) (ue11 x y k)):=by
              rw [← hwd];exact ⟨r.out.1.kept (Qr (Qe _)),r.out.2.kept (Qr (Qe _))⟩
             clear ci cj fi fj hwd r B X b5 b6 b8;go_wp2;go_roundg (3 - (m+1))
             case measure=>omega
             case rel=>exact ⟨m+1,upd d i (d j),true,γ,rfl,rfl,σ,inv_upd n.out.1 h1 hj ai.out.2 HP.out hlt,⟨Nt (Nat.le_of_lt (sum_upd hlt _ h1)) n.out.2.1.1,fun _=>Nl (sum_upd hlt _ h1) n.out.2.1.1⟩,ξ,⟨U.out.1.1.set,U.out.1.2.1.set h1,Qh U.out.1.2.2 bf⟩,U.out.2.set θ⟩
            ·have q1:¬ (d j:Int)<(d i:Int):=γ
             have a7:Hid (Ok L d i m):=fun ac j' bg hq=>by
              rw [HP.out] at hq;obtain rfl:j=j':=γ;omega
             go_quiet (fail)
             go_wp2;go_roundg (3 - (m+1))
             case measure=>omega
             case rel =>
              refine ⟨m+1,d,aa,γ,rfl,rfl,σ,n.out.1,n.out.2.1,fun h=>⟨(n.out.2.2 h).1,fun e' bc=>?_⟩,r.out.1.kept (Qr (Qe _)),r.out.2.kept (Qr (Qe _))⟩;by_cases ee:e'=m
              ·subst ee;exact a7.out
              ·exact (n.out.2.2 h).2 e' γ
         ·obtain rfl:m=3:=γ;go_wp2;go_roundg (L.length - (i+1))
          case measure=>omega
          case rel =>
           refine ⟨i+1,d,aa,γ,rfl,rfl,σ,n.out.1,n.out.2.1,fun h R e ac he=>?_,s.out.1⟩;by_cases ei:R=i
           ·subst ei;exact (n.out.2.2 h).2 e he
           ·exact (n.out.2.2 h).1 R e γ he
       ·have i1:¬ (i:Int)<(L.length:Int):=γ;go_wp2;go_roundg (sumW T L.length+(if A=true then 1 else 0))
        case measure =>
         have q1:=n.out.2.1;have q2:=ba.out
         cases A
         ·simp;omega
         ·have:=q1.2 rfl;simp;omega
        case rel=>exact ⟨T,A,rfl,rfl,n.out.1,fun h R e ac he=>n.out.2.2 h R e γ he,s.out⟩
theorem plc_self (e:l.Nodup) (b:j<l.length):plc l l[j]=j :=
 Gv b rfl fun f a d c=>by
  have:=Jj e a b c;omega
theorem ok_adj {a:Nat→Nat} (k:l.Nodup) (c:∀ t∈l,Kd t) (h:∀ i e,i<l.length→e<3→Ok l a i e):∀ i j (hi:i<l.length) (b:j<l.length),Adj l[i] l[j]→a i≤a j:=fun i j hi b d=>by
 obtain ⟨e,f,g⟩:=(adj_iff (c _ (Lm hi)) (c _ (Lm b))).1 d;exact h i e hi f hi j b (by rw [← g];exact plc_self k b)
theorem Qbb (W H b off l:Nat) (zs:List Int) (c:Value) (w:World) (hr:Row w (Ad b off) zs) (n:1≤W∧W≤8) (o:1≤H∧H≤8) (x:zs.length=W*H) (y:maskB zs=true) :
  Cl 122 #[.agg #[I (W:Int),I (H:Int),.slice (Ad b off) zs.length l,c]] w fun e w'=>∃ bb:Bool,e=.returned (.bool bb)∧(bb=true↔Joined (ty zs W H))∧Bl w w':=by
 have f:=Hd (fun (W':World) hW'=>groups_any W H b off l zs c W' (hr.kept hW') n o x y);have d:Hid ((∀ t∈ty zs W H,Kd t)∧(ty zs W H).Nodup):=⟨fun t D=>(Kg n.2 o.2 t D).2.2,Yl zs W H⟩;have m:(ty zs W H).length≤256:=by have:=Yu zs W H n.2;omega
 clear hr x y n o;obtain ⟨L,s⟩:∃ L,L=ty zs W H:=⟨_,rfl⟩;rw [← s] at f d m ⊢;clear s;go_enter Tryz.func122,Tryz.ntmps122;go_wp2_with (go_at_call 220;refine (f.out _ Θ).mono ?_;rintro e w1 ⟨g,a,rfl,hW1,r,u,v⟩;have k:=H4 hW1 r u (Qc β1 v);clear hW1 r u v)
 have p:Hid (∀ h0:0<L.length,(∀ i,i<L.length→a i=0)↔Joined L):=fun h0=>who_joined d.out.2 h0 a k.out.2.1 (ok_adj d.out.2 d.out.1 k.out.2.2.1);go_loopg [4] L.length (fun B K M=>∃ i:Nat,i≤L.length∧B=L.length - i∧K=I (i:Int)∧(∀ j,j<i→a j=0)∧M=w1)
 case atStart=>exact ⟨0,γ,rfl,rfl,fun j h=>by omega,rfl⟩
 case round =>
  obtain ⟨i,hi,rfl,rfl,hp,rfl⟩:=hrel;have q:=Hd hp;clear hp;by_cases h1:i<L.length
  ·have G:(i:Int)<(L.length:Int):=γ;have O:(0:Int)≤(i:Int):=γ;obtain ⟨A,N⟩:=k.out.1 i h1;by_cases hz:a i=0
   ·rw [hz] at A;have z:=Hd hz;clear hz;go_wp2;go_roundg (L.length - (i+1))
    case measure=>omega
    case rel =>
     refine ⟨i+1,γ,rfl,σ,fun j C=>?_,rfl⟩;by_cases e:j=i
     ·subst e;exact z.out
     ·exact q.out j γ
   ·have E:((a i:Int) == 0)=false:=ω;have F:¬ (a i:Int)=0:=γ;go_wp2;go_ret;refine ⟨false,rfl,⟨fun h=>Bool.noConfusion h,fun h=>absurd (((p.out γ).2 h) i h1) hz⟩,k.out.2.2.2⟩
  ·have G:¬ (i:Int)<(L.length:Int):=γ;by_cases h0:0<L.length
   ·have J:(0:Int)<(L.length:Int):=γ;go_wp2;go_ret;exact Or.inr ⟨rfl,(p.out h0).1 (fun j C=>q.out j γ),k.out.2.2.2⟩
   ·have J:¬ (0:Int)<(L.length:Int):=γ;go_wp2;go_ret;exact Or.inl ⟨rfl,fun h=>absurd h.1 h0,k.out.2.2.2⟩
def ck (ks:List Int) (i j:Nat):Int:=ks.getD (i*5+j) 0
def CrOk (l:List T3) (ks:List Int) (i:Nat):Prop :=
 (0<i→lessE (ck ks (i - 1) 0) (ck ks (i - 1) 1) (ck ks (i - 1) 2) (ck ks (i - 1) 3) (ck ks i 0) (ck ks i 1) (ck ks i 2) (ck ks i 3)=true)∧(ck ks i 4=1∨ck ks i 4=2)∧cnt l (ck ks i 0) (ck ks i 1) (ck ks i 2) (ck ks i 3)=2
def CRow (w:World) (cb:Option Addr) (ks:List Int) (n:Nat):Prop :=
 ∀ i,i<n→∃ bb bo,cb=Ad bb bo∧At w bb (bo+i*5) (I (ck ks i 0))∧At w bb (bo+i*5+1) (I (ck ks i 1))∧At w bb (bo+i*5+2) (I (ck ks i 2))∧At w bb (bo+i*5+3) (I (ck ks i 3))∧At w bb (bo+i*5+4) (I (ck ks i 4))
theorem Xu {f:Option Addr} {b:List Int} (h:Row w f b) (m:b.length=n*5):CRow w f b n:=fun i hi=>by
 have h0:i*5+4<b.length:=γ;obtain ⟨c,d,rfl,c0⟩:=h (i*5) γ;refine ⟨c,d,rfl, ?_⟩
 have a:∀ j,j<5→w.cell? ⟨c,d+i*5+j,none⟩=some (I (ck b i j)):=fun j l=>by
  obtain ⟨k,o,e,g⟩:=h (i*5+j) γ;simp only [Option.some.injEq,Addr.mk.injEq,and_true] at e;obtain ⟨rfl,rfl⟩:=e;(try simp only [I]);rw [Nat.add_assoc,g]
  simp [ck,show i*5+j<b.length by omega]
 exact ⟨a 0 γ,a 1 γ,a 2 γ,a 3 γ,a 4 γ⟩
theorem CRow.kept {d:World} {b:Option Addr} {c:List Int} (h:CRow w b c n) (a:Bl w d):CRow d b c n:=fun i hi=>by
 obtain ⟨f,g,e,h0,h1,h2,h3,h4⟩:=h i hi;exact ⟨f,g,e,Qa a h0,Qa a h1,Qa a h2,Qa a h3,Qa a h4⟩
theorem sheetMay_any (W H b off d n c:Nat) (G:Option Addr) (zs a:List Int) (w:World) (hr:Row w (Ad b off) zs) (Z:1≤W∧W≤8) (Y:1≤H∧H≤8) (R:zs.length=W*H) (E:maskB zs=true) (hk:Row w G a) (hn:a.length=n*5) (ae:n≤3518437208883) :
  Cl 49 #[.agg #[I (W:Int),I (H:Int),.slice (Ad b off) zs.length d,.slice G n c]] w fun e w'=>∃ B:Bool,e=.returned (.bool B)∧(B=true↔((∀ i,i<n→CrOk (ty zs W H) a i)∧Joined (ty zs W H)))∧Bl w w':=by
 have P:cellsB (W:Int) (H:Int) zs=true:=by
  have e1:sideB (W:Int)=true:=γ5;have e2:sideB (H:Int)=true:=γ5;have e3:(zs.length:Int)=(W:Int)*(H:Int):=by rw [R];simp
  simp only [cellsB,e1,e2,decide_eq_true e3,E];rfl
 have V:Hid (∀ t:World,Bl w t→Cl 119 #[.agg #[I (W:Int),I (H:Int),.slice (Ad b off) zs.length d,.slice G n c]] t fun e w'=>e=.returned (.bool true)∧∃ o,w'=t.alloc o):=fun t y=>P ▸ Gg W H (Ad b off) d zs _ t (hr.kept y);have K:Hid (∀ t:World,Bl w t→Cl 122 #[.agg #[I (W:Int),I (H:Int),.slice (Ad b off) zs.length d,.slice G n c]] t fun e w'=>∃ B:Bool,e=.returned (.bool B)∧(B=true↔Joined (ty zs W H))∧Bl t w'):=fun t y=>Qbb W H b off d zs _ t (hr.kept y) Z Y R E;have g:Hid (∀ (p q r s:Int) (t:World),Bl w t→Rt 121 #[.agg #[I (W:Int),I (H:Int),.slice (Ad b off) zs.length d,.slice G n c],.agg #[I p,I q,I r,I s]] t (.bool (decide (cnt (ty zs W H) p q r s=2)))):=fun p q r s t y=>innerEdge_any W H b off d zs _ p q r s t (hr.kept y) Z Y R E;have M:=Hd (Xu hk hn);clear hr R E Z Y hk hn P;obtain ⟨L,hL⟩:∃ L,L=ty zs W H:=⟨_,rfl⟩;rw [← hL] at K g ⊢;clear hL;go_enter Tryz.func49,Tryz.ntmps49;go_wp2_with (go_at_call 119;refine (V.out _ Θ).mono ?_;rintro e w' ⟨rfl,o,rfl⟩)
 go_loopg [3] n (fun gk T U=>∃ i:Nat,i≤n∧gk=n - i∧T=I (i:Int)∧(∀ j,j<i→CrOk L a j)∧Sh U w.heap.size (I (W:Int)) (I (H:Int)) (.slice (Ad b off) zs.length d) (.slice G n c)∧Bl w U)
 case atStart=>exact ⟨0,γ,rfl,rfl,fun j h=>by omega,by simp [Sh,go_sem],Qb β1⟩
 case round =>
  obtain ⟨i,hi,rfl,rfl,hp,hS,hB⟩:=hrel;have HP:=Hd hp;have F:=H2 hS hB;obtain ⟨s0,s1,s2,T⟩:=hS;have aa:=Bt s0;clear hp hB;by_cases h1:i<n
  ·have i1:(i:Int)<(n:Int):=γ;have i0:(0:Int)≤(i:Int):=γ;obtain ⟨B,bo,rfl,c0,c1,c2,c3,c4⟩:=(M.out.kept F.out.2) i h1;have zb:=Bt c0;go_wp2;go_cut [51] (fun a8 U=>∃ A:Bool,a8=.bool A∧(A=true↔¬ CrOk L a i)∧Bl wr U)
   case first =>
    refine Qi (fun x hW0=>?_);have l:Bl wr x:=γ4;have u:=Hd l;have k:=Hd (Qc F.out.2 l);have a0:At x w.heap.size 0 (I (W:Int)):=Qa l s0;have a1:At x w.heap.size 1 (I (H:Int)):=Qa l s1;have a2:At x w.heap.size 2 (.slice (Ad b off) zs.length d):=Qa l s2;have a3:At x w.heap.size 3 (.slice (Ad B bo) n c):=Qa l T;have t0:At x wr.heap.size 0 (I (ck a i 0)):=ν;have t1:At x wr.heap.size 1 (I (ck a i 1)):=ν;have t2:At x wr.heap.size 2 (I (ck a i 2)):=ν;have t3:At x wr.heap.size 3 (I (ck a i 3)):=ν;have t4:At x wr.heap.size 4 (I (ck a i 4)):=ν;have z0:=Bt a0;have z1:=Bt t0;have z2:B<x.heap.size:=Nl zb l.size;have X:=Hd (M.out.kept k.out);obtain ⟨kc,kn⟩:=kcn x;clear l hW0 s0 s1 s2 T c0 c1 c2 c3 c4 aa zb;by_cases hi0:i=0
    ·have q0:¬ (0:Int)<(i:Int):=γ;have N:=Hd hi0;have q1:¬ 0<i:=γ;clear hi0;by_cases k1:(ck a i 4)=1
     ·refine wk ?_;repeat (go_big_quiet_step ((first | (go_at_call 120;exact Qf (Js _ _ _ _ _ _ _ _ _)) | (go_at_call 121;exact Qf (g.out _ _ _ _ _ (Qc k.out (Kin.h _)))))))
      refine kq1 (fun J hq=>?_);have v:=Hd (Qc u.out hq);clear hq;go_wp2;go_meet
      case rel=>exact ⟨_,rfl,by simp only [Bool.not_eq_true',decide_eq_false_iff_not];exact ⟨fun h f=>h f.2.2,fun h f=>h ⟨fun h=>absurd h (by have:=N.out;omega),Or.inl k1,f⟩⟩,v.out⟩
     ·by_cases k2:(ck a i 4)=2
      ·refine wk ?_;repeat (go_big_quiet_step ((first | (go_at_call 120;exact Qf (Js _ _ _ _ _ _ _ _ _)) | (go_at_call 121;exact Qf (g.out _ _ _ _ _ (Qc k.out (Kin.h _)))))))
       refine kq1 (fun J hq=>?_);have v:=Hd (Qc u.out hq);clear hq;go_wp2;go_meet
       case rel=>exact ⟨_,rfl,by simp only [Bool.not_eq_true',decide_eq_false_iff_not];exact ⟨fun h f=>h f.2.2,fun h f=>h ⟨fun h=>absurd h (by have:=N.out;omega),Or.inr k2,f⟩⟩,v.out⟩
      ·have a6:((ck a i 4) != 1)=true:=by simpa using k1
       have a7:((ck a i 4) != 2)=true:=by simpa using k2
       refine wk ?_;repeat (go_big_quiet_step ((first | (go_at_call 120;exact Qf (Js _ _ _ _ _ _ _ _ _)) | (go_at_call 121;exact Qf (g.out _ _ _ _ _ (Qc k.out (Kin.h _)))))))
       refine kq1 (fun J hq=>?_);have v:=Hd (Qc u.out hq);clear hq;go_wp2;go_meet
       case rel=>exact ⟨_,rfl,⟨fun _ f=>by rcases f.2.1 with h | h <;> contradiction,fun _=>rfl⟩,v.out⟩
    ·have q0:(0:Int)<(i:Int):=γ;have q1:0<i:=γ;clear hi0;obtain ⟨m,E⟩:∃ m,i=m+1:=⟨i - 1,γ⟩;have ad:(i:Int) - 1=(m:Int):=γ;have m1:(m:Int)<(n:Int):=γ;have m0:(0:Int)≤(m:Int):=γ;obtain ⟨ab,ac,e',p0,p1,p2,p3,_⟩:=X.out m γ;simp only [Option.some.injEq,Addr.mk.injEq,and_true] at e';obtain ⟨rfl,rfl⟩:=e';have HM:Hid (i - 1=m):=by show i - 1=m;omega
     cases hless:lessE (ck a m 0) (ck a m 1) (ck a m 2) (ck a m 3) (ck a i 0) (ck a i 1) (ck a i 2) (ck a i 3)
     ·have Q:Hid (¬ CrOk L a i):=fun h=>by
       have:=h.1 γ;rw [HM.out,hless] at this;exact Bool.noConfusion this
      clear E;refine wk ?_;repeat (go_big_quiet_step ((first | (go_at_call 120;exact Qf (Js _ _ _ _ _ _ _ _ _)) | (go_at_call 121;exact Qf (g.out _ _ _ _ _ (Qc k.out (Kin.h _)))))))
      refine kq1 (fun J hq=>?_);have v:=Hd (Qc u.out hq);clear hq;go_wp2;go_meet
      case rel=>exact ⟨_,rfl,⟨fun _=>Q.out,fun _=>rfl⟩,v.out⟩
     ·have Q:Hid (0<i→lessE (ck a (i - 1) 0) (ck a (i - 1) 1) (ck a (i - 1) 2) (ck a (i - 1) 3) (ck a i 0) (ck a i 1) (ck a i 2) (ck a i 3)=true):=fun _=>by rw [HM.out];exact hless
      clear E;by_cases k1:(ck a i 4)=1
      ·refine wk ?_;repeat (go_big_quiet_step ((first | (go_at_call 120;exact Qf (Js _ _ _ _ _ _ _ _ _)) | (go_at_call 121;exact Qf (g.out _ _ _ _ _ (Qc k.out (Kin.h _)))))))
       refine kq1 (fun J hq=>?_);have v:=Hd (Qc u.out hq);clear hq;go_wp2;go_meet
       case rel=>exact ⟨_,rfl,by simp only [Bool.not_eq_true',decide_eq_false_iff_not];exact ⟨fun h f=>h f.2.2,fun h f=>h ⟨Q.out,Or.inl k1,f⟩⟩,v.out⟩
      ·by_cases k2:(ck a i 4)=2
       ·refine wk ?_;repeat (go_big_quiet_step ((first | (go_at_call 120;exact Qf (Js _ _ _ _ _ _ _ _ _)) | (go_at_call 121;exact Qf (g.out _ _ _ _ _ (Qc k.out (Kin.h _)))))))
        refine kq1 (fun J hq=>?_);have v:=Hd (Qc u.out hq);clear hq;go_wp2;go_meet
        case rel=>exact ⟨_,rfl,by simp only [Bool.not_eq_true',decide_eq_false_iff_not];exact ⟨fun h f=>h f.2.2,fun h f=>h ⟨Q.out,Or.inr k2,f⟩⟩,v.out⟩
       ·have a6:((ck a i 4) != 1)=true:=by simpa using k1
        have a7:((ck a i 4) != 2)=true:=by simpa using k2
        refine wk ?_;repeat (go_big_quiet_step ((first | (go_at_call 120;exact Qf (Js _ _ _ _ _ _ _ _ _)) | (go_at_call 121;exact Qf (g.out _ _ _ _ _ (Qc k.out (Kin.h _)))))))
        refine kq1 (fun J hq=>?_);have v:=Hd (Qc u.out hq);clear hq;go_wp2;go_meet
        case rel=>exact ⟨_,rfl,⟨fun _ f=>by rcases f.2.1 with h | h <;> contradiction,fun _=>rfl⟩,v.out⟩
   case rest =>
    obtain ⟨A,rfl,C,D⟩:=hcut;have z:=H3 C (F.out.1.kept D) (Qc F.out.2 D);clear C D
    cases A
    ·go_wp2;go_roundg (n - (i+1))
     case measure=>omega
     case rel =>
      refine ⟨i+1,γ,rfl,σ,fun j hj=>?_,z.out.2.1,z.out.2.2⟩;by_cases ej:j=i
      ·subst ej;exact Classical.byContradiction fun h=>Bool.noConfusion (z.out.1.2 h)
      ·exact HP.out j γ
    ·go_wp2;go_ret;exact Or.inl ⟨rfl,fun h=>absurd (h i h1) (z.out.1.1 ξ),z.out.2.2⟩
  ·have i1:¬ (i:Int)<(n:Int):=γ;have HA:Hid (∀ j,j<n→CrOk L a j):=fun j hj=>HP.out j γ;go_wp2_with (go_at_call 122;refine (K.out _ F.out.2).mono ?_;rintro e w2 ⟨bv,rfl,O,hb⟩;have z:=H2 O (Qc F.out.2 hb);clear O hb)
   go_ret;exact ⟨bv,rfl,⟨fun h=>⟨HA.out,z.out.1.1 h⟩,fun h=>z.out.1.2 h.2⟩,z.out.2⟩
end Go.Proofs.YtnpboeodhpenmaaGreatDoor
namespace Go.Proofs.YtnpboeodhpenmaaGreatDoor
open Go.RowKit Go.ChangeMaps
variable {w:World} {c r:Nat}
def TGP (w:World) (base ra:Nat) (vt:Value) (G:T3→List Int):Prop :=
 ∃ ls clock,TEM w ra ls clock∧TGood ls clock∧(∀ e,Tlk ls e=none→G e=[]) ∧
  (∀ e v,Tlk ls e=some v→w.ownsRow base 3 1 v (G e).length ((G e).map (Value.int .i64))∧G e≠[]∧(vt.ownBlock=none∨v.ownBlock≠vt.ownBlock)) ∧
  (∀ e e' v v',e≠e'→Tlk ls e=some v→Tlk ls e'=some v'→v.ownBlock≠v'.ownBlock)
theorem TEM.lt {ls:List (T3×Value×Nat)} (h:TEM w r ls c):r<w.heap.size:=(Array.getElem?_eq_some_iff.1 h).1
theorem TEM.grown {w':World} {ls:List (T3×Value×Nat)} {row:Option Nat} (h:TEM w r ls c) (hg:w.grownBy w' row) (a:some r≠row):TEM w' r ls c:=(hg.block r h.lt a).trans h
theorem TGP.kept {w':World} {base b:Nat} {d:Value} {G:T3→List Int} (h:TGP w base b d G) (a:Bl w w'):TGP w' base b d G:=by
 obtain ⟨ls,c,h1,h2,h3,h4,h5⟩:=h;refine ⟨ls,c,h1.grown (Qy a) ξ,h2,h3,fun e v g=>?_,h5⟩;obtain ⟨a1,f,a3⟩:=h4 e v g;exact ⟨Qj a1 a,f,a3⟩
theorem TGP.entry {base l:Nat} {L:Value} {G:T3→List Int} (h:TGP w base l L G) (V:l<base) (O:∀ g,L.ownBlock=some g→g<w.heap.size) (e:T3) (n:Int) :
  ∃ v0 K W2,(Instr.mapEntry 336 (.map (some l)) (Tek e)).run Tryz.prog w=.ok (.tuple #[v0,I K]) W2∧w.grownBy W2 (some l)∧W2.heap.size=w.heap.size∧W2.ownsRow base 3 1 v0 (G e).length ((G e).map (Value.int .i64)) ∧
   ∀ v' r,W2.grownBy r v0.ownBlock→r.ownsRow base 3 1 v' ((G e).length+1) ((G e).map (Value.int .i64) ++ [I n])→(v'.ownBlock=v0.ownBlock∨v'.ownBlock=some W2.heap.size) →
    ∃ W4,(Instr.entryStore 336 (.map (some l)) (I K) v').run Tryz.prog r=.ok () W4∧r.grownBy W4 (some l)∧TGP W4 base l L (fun j=>if j=e then G e ++ [n] else G j):=by
 obtain ⟨ls,c,h1,h2,h3,h4,h5⟩:=h;obtain ⟨K,k,c1,A,N⟩:=Tentry27 Tryz.underlying336 zero70 h1 h2 e;have M:=h1;unfold TEM at M;have x:=Yf M (.map (k.map TtoE).toArray c1)
 have o:∀ {W:World} {v:Value} {n:Nat} {R:List Value},W.ownsRow base 3 1 v n R→v.ownBlock=none∨v.ownBlock≠some l:=fun {W v n R} U=>by
  cases H:v.ownBlock with
  | none=>exact Or.inl rfl
  | some g =>
   refine Or.inr (fun e1=>?_);have:=(U.lt g H).1;simp at e1;omega
 have C:(setBlock w l (.map (k.map TtoE).toArray c1)).ownsRow base 3 1 ((Tlk ls e).getD SN) (G e).length ((G e).map (Value.int .i64)):=by
  cases f:Tlk ls e with
  | none =>
   rw [h3 e f];exact World.ownsRow_nil _ _ _ _
  | some v =>
   have a:=(h4 e v f).1;exact a.kept x (o a)
 have B:(setBlock w l (.map (k.map TtoE).toArray c1)).heap.size=w.heap.size:=by simp [setBlock]
 refine ⟨_,(K:Int),_,A,x,B,C,fun v' r z p s=>?_⟩;obtain ⟨D,P,T,F,_,g3⟩:=N v'
 have t:TEM r l k c1:=by
  have e0:TEM (setBlock w l (.map (k.map TtoE).toArray c1)) l k c1:=heap_setBlock_same M _;refine e0.grown z ?_;rcases o C with e1 | e1
  ·rw [e1];simp
  ·exact fun e2=>e1 e2.symm
 have q:=Yf t (.map (D.map TtoE).toArray P);refine ⟨_,g3 r t,q,D,P,heap_setBlock_same t _,T,fun j b=>?_,fun j v b=>?_,fun j J v Q y b d=>?_⟩
 ·rw [F j] at b;by_cases e1:j=e
  ·rw [if_pos e1] at b
   cases b
  ·rw [if_neg e1] at b;dsimp only;rw [if_neg e1];exact h3 j b
 ·rw [F j] at b;by_cases e1:j=e
  ·dsimp only;rw [if_pos e1] at b ⊢;simp at b;subst b;refine ⟨?_,ξ, ?_⟩
   ·have:=p.kept q (o p);simpa using this
   ·rcases s with f | f
    ·cases hlk:Tlk ls e with
     | none =>
      rw [hlk] at f;have:v'.ownBlock=none:=by rw [f];rfl
      obtain ⟨g,hg,_⟩:=Ym p γ;rw [hg] at this
      cases this
     | some v =>
      rw [hlk] at f;rw [f];exact (h4 e v hlk).2.2
    ·rw [f]
     cases hvb:L.ownBlock with
     | none=>exact Or.inl rfl
     | some g =>
      have:=O g hvb;refine Or.inr (fun e2=>?_);simp at e2;omega
  ·dsimp only;rw [if_neg e1] at b ⊢;obtain ⟨a1,E,a3⟩:=h4 j v b;refine ⟨?_,E,a3⟩;have b1:=a1.kept x (o a1)
   have b2:r.ownsRow base 3 1 v (G j).length ((G j).map (Value.int .i64)):=by
    refine b1.kept z ?_
    cases hlk:Tlk ls e with
    | none =>
     obtain ⟨g,hg,_⟩:=Ym a1 (List.length_pos_iff.2 E);rw [hg];exact Or.inr δ2
    | some v0=>exact Or.inr (h5 j e v v0 e1 b hlk)
   exact b2.kept q (o b2)
 ·rw [F j] at b;rw [F J] at d
  have m:∀ i u,i≠e→Tlk ls i=some u→u.ownBlock≠v'.ownBlock:=fun i u hi H=>by
   obtain ⟨a1,E,_⟩:=h4 i u H;obtain ⟨g,hg,_,q⟩:=Ym a1 (List.length_pos_iff.2 E);rcases s with f | f
   ·cases hlk:Tlk ls e with
    | none =>
     rw [hlk] at f;rw [f,hg];simp [Value.ownBlock]
    | some v0 =>
     rw [hlk] at f;rw [f];exact h5 i e u v0 hi H hlk
   ·rw [f,hg,B];intro e2;simp at e2;omega
  by_cases e1:j=e
  ·rw [if_pos e1] at b;rw [if_neg (fun e2=>y (e1.trans e2.symm))] at d;simp at b;subst b;exact fun e2=>m J Q (fun e3=>y (e1.trans e3.symm)) d e2.symm
  ·rw [if_neg e1] at b;by_cases e3:J=e
   ·rw [if_pos e3] at d;simp at d;subst d;exact m j v e1 b
   ·rw [if_neg e3] at d;exact h5 j J v Q y b d
abbrev EL:=List (E4×Value×Nat)
theorem blkE_same (h:r<w.heap.size) (o:Obj):(setBlock w r o).heap[r]?=some o:=by
 simp [setBlock,h]
theorem Kb {i:Nat} (h:i≠r) (o:Obj):(setBlock w r o).heap[i]?=w.heap[i]?:=by
 simp [setBlock,Ne.symm h]
theorem blkE_grown (w:World) (r:Nat) (o:Obj):w.grownBy (setBlock w r o) (some r) :=
 ⟨rfl,rfl,rfl,by simp [setBlock],fun k _ a=>Kb (fun e=>a (by rw [e])) o⟩
def AllE (ls:EL) (seen:List Nat):Prop := ∀ x∈ls,x.2.2∈seen
def OneE (ls:EL) (seen:List Nat) (e:E4) (xv:Value) (st:Nat):Prop:=(e,xv,st)∈ls∧st ∉ seen
def StepE (w w':World) (rm r c:Nat) (ls:EL) (seen:List Nat) (st:Nat):Prop:=EM w' rm ls c∧w'.heap[r]?=some (.mapIter (some rm) c (seen ++ [st]).toArray c)∧w.grownBy w' (some r)
theorem wpList_next_em {l:Array Oper} {rest:List Oper} {o:Oper} {a:Act} {Q:Exit→Act→World→Prop} (hg:o.guard=none) (it:Operand) (v:o.op=Op.next it false) (d r c:Nat) (ls:EL) (b:List Nat)
  (s:a.eval it=.pointer (Az r)) (B:EM w d ls c) (hr:w.heap[r]?=some (.mapIter (some d) c b.toArray c)) (F:Good ls c) (t:r≠d)
  (i:AllE ls b→wpList Tryz.prog l Q rest (a.put o.dst (.tuple #[.bool false])) w)
  (j:∀ (e0 e1 e2 e3:Int) (n:Value) (h:Nat) (w':World),OneE ls b (e0,e1,e2,e3) n h→StepE w w' d r c ls b h→(Instr.entry (.pointer (Az r))).run Tryz.prog w'=.ok (.tuple #[.agg #[I e0,I e1,I e2,I e3],n]) w' →
   wpList Tryz.prog l Q rest (a.put o.dst (.tuple #[.bool true,.agg #[I e0,I e1,I e2,I e3],n])) w'):wpList Tryz.prog l Q (o :: rest) a w:=by
 refine wpList_plain hg fun K q=>?_;unfold Oper.wp
 have hold:∀ x∈((ls.map toE).toArray).toList,x.born<c:=fun x g=>by
  simp only [List.mem_map] at g;obtain ⟨y,J,rfl⟩:=g;exact F.2.2 y J
 rcases run_next_at (P:=Tryz.prog) w o.type r d c c b.toArray _ c hr B hold (Nr _) with ⟨h0,f⟩ | ⟨e,z,w1,D,f⟩
 ·simp [execOp,v,s,f,Result.andThen];refine q _ _ (i (fun x g=>?_));have:leftOf (ls.map toE).toArray b.toArray=#[]:=Array.eq_empty_of_size_eq_zero h0;unfold leftOf at this;rw [Array.filter_eq_empty_iff] at this;have:=this (toE x) (by rw [List.mem_toArray];exact List.mem_map.2 ⟨x,g,rfl⟩);simpa [toE] using this
 ·have A:∃ x∈ls,x.2.2 ∉ b∧toE x=e:=by
   unfold leftOf at z;simp only [Array.toList_filter,List.mem_filter,List.mem_map] at z;obtain ⟨⟨x,g,rfl⟩,hs⟩:=z;exact ⟨x,g,by simpa [toE] using hs,rfl⟩
  obtain ⟨x,g,E,rfl⟩:=A
  have C:EM w1 d ls c∧w1.heap[r]?=some (.mapIter (some d) c b.toArray c)∧w.grownBy w1 none:=by
   rcases D with rfl | rfl
   ·exact ⟨B,hr,Qy (Qe _)⟩
   ·exact ⟨B,hr,Qy (Qg (Qe _))⟩
  obtain ⟨H,r1,m⟩:=C;simp [execOp,v,s,f,Result.andThen];obtain ⟨⟨e0,e1,e2,e3⟩,n,h⟩:=x;refine q _ _ (j e0 e1 e2 e3 n h _ ⟨g,E⟩ ⟨?_, ?_, ?_⟩ ?_)
  ·exact (Kb (Ne.symm t) _).trans H
  ·have:=blkE_same (w:=w1) (Array.getElem?_eq_some_iff.1 r1).1 (.mapIter (some d) c (b ++ [h]).toArray c);exact this
  ·have p:=blkE_grown w1 r (.mapIter (some d) c (b ++ [h]).toArray c);exact ⟨p.os.trans m.os,p.tape.trans m.tape,p.output.trans m.output,Nt m.size p.size,fun k G u=>(p.block k (Nl G m.size) u).trans (m.block k G ξ)⟩
  ·have e1:=run_entry_at (P:=Tryz.prog) (setBlock w1 r (.mapIter (some d) c (b ++ [h]).toArray c)) r d c b.toArray (ls.map toE).toArray c (toE ((e0,e1,e2,e3),n,h)) (by
    have:=blkE_same (w:=w1) (Array.getElem?_eq_some_iff.1 r1).1 (.mapIter (some d) c (b ++ [h]).toArray c);rw [this];simp [toE]) ((Kb (Ne.symm t) _).trans H) (by simpa using List.mem_map.2 ⟨_,g,rfl⟩) (by
    have:=F.2.1;simpa [List.map_map,toE,Function.comp_def] using this)
   exact e1
def stampE (vis:EL):List Nat:=vis.map (fun x=>x.2.2)
theorem stampE_add (a:EL) (x:E4×Value×Nat):stampE (a ++ [x])=stampE a ++ [x.2.2]:=by simp [stampE]
theorem sub_lenE:∀ (a b:List Nat),a.Nodup→(∀ x∈a,x∈b)→a.length≤b.length
 | [],_,_,_=>Nat.zero_le _
 | x :: a,b,hn,hs=>by
  rw [List.nodup_cons] at hn;have:=sub_lenE a (b.erase x) hn.2 fun y c=>(List.mem_erase_of_ne (fun (e:y=x)=>hn.1 (e ▸ c))).2 (hs y (by simp [c]));rw [List.length_erase_of_mem (hs x ξ)] at this;have:=List.length_pos_of_mem (hs x ξ);rw [List.length_cons];omega
theorem keyE_inj {ls:EL} (h:(ls.map (fun x=>x.1)).Nodup):∀ {a b},a∈ls→b∈ls→a.1=b.1→a=b:=by
 induction ls with
 | nil=>intro a b f;cases f
 | cons x l ih =>
  intro a b f g e;rw [List.map_cons,List.nodup_cons] at h;rcases List.mem_cons.1 f with e1 | d
  ·rcases List.mem_cons.1 g with e2 | c
   ·rw [e1,e2]
   ·exact absurd (List.mem_map.2 ⟨b,c,by rw [← e,e1]⟩) h.1
  ·rcases List.mem_cons.1 g with e2 | c
   ·exact absurd (List.mem_map.2 ⟨a,d,by rw [e,e2]⟩) h.1
   ·exact ih h.2 d c e
theorem stampE_inj {ls:EL} (h:(ls.map (fun x=>x.2.2)).Nodup):∀ {a b},a∈ls→b∈ls→a.2.2=b.2.2→a=b:=by
 induction ls with
 | nil=>intro a b f;cases f
 | cons x l ih =>
  intro a b f g e;rw [List.map_cons,List.nodup_cons] at h;rcases List.mem_cons.1 f with e1 | d
  ·rcases List.mem_cons.1 g with e2 | c
   ·rw [e1,e2]
   ·exact absurd (List.mem_map.2 ⟨b,c,by rw [← e,e1]⟩) h.1
  ·rcases List.mem_cons.1 g with e2 | c
   ·exact absurd (List.mem_map.2 ⟨a,d,by rw [e,e2]⟩) h.1
   ·exact ih h.2 d c e
def VisE (ls vis:EL):Prop:=(∀ x∈vis,x∈ls)∧(stampE vis).Nodup
theorem VisE.nil (ls:EL):VisE ls []:=⟨fun x a=>(by cases a),List.nodup_nil⟩
theorem VisE.len {ls a:EL} (h:VisE ls a):a.length≤ls.length:=by
 have:=sub_lenE (stampE a) (stampE ls) h.2 (fun x b=>by
  obtain ⟨y,c,rfl⟩:=List.mem_map.1 b;exact List.mem_map.2 ⟨y,h.1 y c,rfl⟩)
 simpa [stampE] using this
theorem VisE.add {ls c:EL} {e:E4} {j:Value} {i:Nat} (h:VisE ls c) (g:OneE ls (stampE c) e j i):VisE ls (c ++ [(e,j,i)]):=by
 refine ⟨fun x d=>?_, ?_⟩
 ·rcases List.mem_append.1 d with d | d
  ·exact h.1 x d
  ·simp at d;rw [d];exact g.1
 ·rw [stampE_add,List.nodup_append];refine ⟨h.2,ξ,fun a k b f=>?_⟩;simp at f;subst f;exact fun e=>g.2 (e ▸ k)
theorem VisE.keys {ls d:EL} (h:VisE ls d) (g:Good ls c):(d.map (fun x=>x.1)).Nodup:=by
 have h2:d.Pairwise (fun a b=>a.2.2≠b.2.2):=List.pairwise_map.1 h.2;refine List.pairwise_map.2 (h2.imp_of_mem (fun {a b} i j f e=>f ?_));rw [keyE_inj g.1 (h.1 a i) (h.1 b j) e]
theorem VisE.all {ls a:EL} (h:VisE ls a) (d:Good ls c) (f:AllE ls (stampE a)) (x:E4×Value×Nat):x∈a↔x∈ls:=by
 refine ⟨h.1 x,fun b=>?_⟩;obtain ⟨y,g,e⟩:=List.mem_map.1 (f x b);rwa [← stampE_inj d.2.1 (h.1 y g) b e]
theorem lk_in {ls:EL} (a:Good ls c) {e:E4} {v:Value} {d:Nat} (h:(e,v,d)∈ls):lk ls e=some v:=by
 obtain ⟨j,b⟩:=List.getElem?_of_mem h;exact Kw a.1 b rfl
end Go.Proofs.YtnpboeodhpenmaaGreatDoor
