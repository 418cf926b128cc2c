/- A part of it. -/
import Derived.Test.YtjkjpopghkeibaaGreatDoorQlas
set_option maxRecDepth 100000
set_option maxHeartbeats 40000000
namespace Go.Proofs.YtjkjpopghkeibaaGreatDoor
open Go.RowKit Go.ChangeMaps
theorem indexNums_any (s:Option Addr) (B pb q:Nat) (l:List Nat) (f:Nat→Bool) (w:World) (hl:l.length≤1000) (o:NumR w s l)
  (b:∀ (V:World) (x:Nat),Bl w V→x∈l→Rt 73 #[I (x:Int),.pointer (Az pb),.pointer (Az q)] V (.bool (f x))) :
  Cl 84 #[.slice s l.length B,.func (.func 73) #[] #[.pointer (Az pb),.pointer (Az q)]] w fun e w'=>∃ r:Int,e=.returned (I r)∧decide (0≤r)=l.any f∧Bl w w':=by
 have d:=Hd b;have t:=Hd o;clear b o;go_enter Tryz.func84,Tryz.ntmps84;go_wp2;go_loopg [5,8] l.length (fun y F A D=>∃ i:Nat,i≤l.length∧y=l.length - i∧A=I (i:Int)∧(l.take i).any f=false∧Bl w D)
 case atStart=>exact ⟨0,γ,rfl,rfl,ξ,Qe _⟩
 case round =>
  obtain ⟨i,hi,rfl,rfl,p,n⟩:=hrel;have a:=H2 p n;clear p n;by_cases h1:i<l.length
  ·have z:(i:Int)<(l.length:Int):=γ;have E:(0:Int)≤(i:Int):=γ;obtain ⟨g,hg,c0⟩:=(t.out.kept a.out.2) i h1;subst hg;have e:l.take (i+1)=l.take i ++ [l[i]]:=by first | exact (List.take_append_getElem h1).symm | exact (List.take_concat_get' _ _ h1).symm | exact List.take_succ_eq_append_getElem h1
   have CA:=d.out wr l[i] a.out.2 (Lm h1);have c:l[i]∈l:=Lm h1;generalize l[i]=u at c0 e CA c
   cases hu:f u with
   | false =>
    rw [hu] at CA
    have m:Hid ((l.take (i+1)).any f=false):=by
     have h:(l.take (i+1)).any f=false:=by rw [e,List.any_append,a.out.1];simp [hu]
     exact h
    have j:=Hd CA;clear e hu CA c;go_wp2_with (go_at_call 73;refine j.out.mono ?_;rintro e C ⟨rfl,hb⟩;have k:=Hd (Qc a.out.2 hb);clear hb)
    go_roundg (l.length - (i+1))
    case measure=>omega
    case rel=>exact ⟨i+1,γ,rfl,σ,m.out,k.out⟩
   | true =>
    rw [hu] at CA
    have m:Hid (l.any f=true):=by
     have h:l.any f=true:=List.any_eq_true.mpr ⟨u,c,hu⟩;exact h
    have j:=Hd CA;clear e hu CA c;go_wp2_with (go_at_call 73;refine j.out.mono ?_;rintro e C ⟨rfl,hb⟩;have k:=Hd (Qc a.out.2 hb);clear hb)
    refine bodyPost_ret (v:=I (i:Int)) (by simp [results,Tryz.results84,go_sem]) rfl ⟨(i:Int),rfl, ?_,k.out⟩;rw [m.out];simp
  ·have z:¬ (i:Int)<(l.length:Int):=γ;obtain rfl:i=l.length:=γ;go_wp2;refine bodyPost_ret (v:=I (-1)) (by simp [results,Tryz.results84,go_sem]) rfl ⟨-1,rfl, ?_,a.out.2⟩;have:=a.out.1;rw [List.take_length] at this;rw [this];rfl
theorem hasNum_any (d:Option Addr) (i pb c:Nat) (l:List Nat) (f:Nat→Bool) (w:World) (hl:l.length≤1000) (h:NumR w d l)
  (a:∀ (V:World) (x:Nat),Bl w V→x∈l→Rt 73 #[I (x:Int),.pointer (Az pb),.pointer (Az c)] V (.bool (f x))) :
  Rt 35 #[.slice d l.length i,.func (.func 73) #[] #[.pointer (Az pb),.pointer (Az c)]] w (.bool (l.any f)):=by
 have b:=Hd (indexNums_any d i pb c l f w hl h a);clear h a;go_enter Tryz.func35,Tryz.ntmps35;go_wp2_with (go_at_call 84;refine b.out.mono ?_;rintro e j ⟨r,rfl,hr,hb⟩;have g:=H2 hr hb;clear hr hb)
 refine bodyPost_ret (v:=.bool (decide (0≤r))) (by simp [results,Tryz.results35,go_sem]) rfl ⟨by rw [g.out.1],g.out.2⟩
theorem covered_asks (pb k i j n x y:Nat) (d c bx:Bool) (w:World) (o:x<n) (_m:n≤1000) (e:At w pb 14 (.slice (Az j) n n)) (p:At w pb 5 (.func (.func 90) #[] #[.pointer (Az i)])) (q:At w pb 9 (.bool d)) (r0:At w k 0 (I (y:Int))) (c0:At w j x (.bool bx))
  (b:∀ V:World,Bl w V→Rt 90 #[I (x:Int),I (y:Int),.pointer (Az i)] V (.bool c)) :
  Rt 73 #[I (x:Int),.pointer (Az pb),.pointer (Az k)] w (.bool (!bx && (c == d))):=by
 have a:=Hd b;clear b;have r:(0:Int)≤(x:Int):=γ;have x1:(x:Int)<(n:Int):=γ;have t:=Bt e;have u:=Bt r0;have s:=Bt c0
 cases bx with
 | true =>
  go_enter Tryz.func73,Tryz.ntmps73;go_upto_region 1 with fail
  obtain ⟨f,g⟩:=kcn w;refine wk ?_;repeat (go_big_quiet_step ((first | (go_at_call 90;(with_reducible exact Qf (a.out _ (Kin.h _)))) | fail)))
  refine kq1 (fun l hq=>?_);clear f g;go_wp2;go_ret;exact ⟨by first | rfl | (cases c <;> cases d <;> rfl) | simp,hq⟩
 | false =>
  go_enter Tryz.func73,Tryz.ntmps73;go_upto_region 1 with fail
  obtain ⟨f,g⟩:=kcn w;refine wk ?_;repeat (go_big_quiet_step ((first | (go_at_call 90;(with_reducible exact Qf (a.out _ (Kin.h _)))) | fail)))
  refine kq1 (fun l hq=>?_);clear f g;go_wp2;go_ret;exact ⟨by first | rfl | (cases c <;> cases d <;> rfl) | simp,hq⟩
def cvI (mw:Nat→Bool) (ab:Nat→Nat→Bool) (ov:Bool) (l:List Nat) (x:Nat):Bool:=mw x && l.any fun b => !mw b && (ab b x == ov)
def cvL (mw:Nat→Bool) (ab:Nat→Nat→Bool) (ov:Bool) (l:List Nat):Bool:=l.any (cvI mw ab ov l)
theorem covered_any (t a k m pl wy c sd ly Y Z X:Value) (C D n:Nat) (d:Bool) (mw:Nat→Bool) (f:Nat→Nat→Bool) (r:List (List Nat)) (w:World) (hn:n≤300) (hL:r.length≤1000) (hM:YRow w D n mw) (R:∀ l∈r,l.length≤300∧∀ x∈l,x<n)
  (L:∀ V:World,Bl w V→Cl 72 #[.agg #[t,a,k,m,pl]] V fun e w'=>∃ (g q:Nat) (S:List (Nat×Nat×List Nat)),e=.returned (.slice (Az g) S.length q)∧S.map (fun s=>s.2.2)=r∧((∀ i (h:i<S.length),At w' g i (.slice (Az (S[i].1)) S[i].2.2.length S[i].2.1))∧(∀ s∈S,NumR w' (Az s.1) s.2.2))∧Bl V w')
  (M:∀ (V:World) (x y:Nat),Bl w V→x<n→y<n→Rt 90 #[I (x:Int),I (y:Int),.pointer (Az C)] V (.bool (f x y))) :
  Rt 29 #[.agg #[t,a,k,m,pl,.func (.func 90) #[] #[.pointer (Az C)],wy,c,sd,.bool d,ly,Y,Z,X,.slice (Az D) n n]] w (.bool (r.any (cvL mw f d))):=by
 have a2:Hid (∀ V:World,Bl w V→Cl 72 #[.agg #[t,a,k,m,pl]] V fun e w'=>∃ (g q:Nat) (S:List (Nat×Nat×List Nat)),e=.returned (.slice (Az g) S.length q)∧S.map (fun s=>s.2.2)=r∧((∀ i (h:i<S.length),At w' g i (.slice (Az (S[i].1)) S[i].2.2.length S[i].2.1))∧(∀ s∈S,NumR w' (Az s.1) s.2.2))∧Bl V w'):=L;have a6:Hid (∀ (V:World) (x y:Nat),Bl w V→x<n→y<n→Rt 90 #[I (x:Int),I (y:Int),.pointer (Az C)] V (.bool (f x y))):=M;have HH:Hid (YRow w D n mw∧∀ l∈r,l.length≤300∧∀ x∈l,x<n):=⟨hM,R⟩;have HK:Hid ((w.alloc (.cells #[t,a,k,m,pl,.func (.func 90) #[] #[.pointer (Az C)],wy,c,sd,.bool d,ly,Y,Z,X,.slice (Az D) n n] 66)).cell? ⟨w.heap.size,5,none⟩=some (.func (.func 90) #[] #[.pointer (Az C)])∧(w.alloc (.cells #[t,a,k,m,pl,.func (.func 90) #[] #[.pointer (Az C)],wy,c,sd,.bool d,ly,Y,Z,X,.slice (Az D) n n] 66)).cell? ⟨w.heap.size,9,none⟩=some (.bool d)∧(w.alloc (.cells #[t,a,k,m,pl,.func (.func 90) #[] #[.pointer (Az C)],wy,c,sd,.bool d,ly,Y,Z,X,.slice (Az D) n n] 66)).cell? ⟨w.heap.size,14,none⟩=some (.slice (Az D) n n)):=⟨δ,δ,δ⟩;clear L M hM R;go_enter Tryz.func29,Tryz.ntmps29;go_wp2_with (go_at_call 72;refine (a2.out _ β1).mono ?_;rintro e o ⟨g,gq,S,rfl,hS,hR,hb⟩;have j:Hid (S.map (fun s=>s.2.2)=r∧((∀ i (h:i<S.length),At o g i (.slice (Az (S[i].1)) S[i].2.2.length S[i].2.1))∧(∀ s∈S,NumR o (Az s.1) s.2.2))∧Bl w o∧At o w.heap.size 5 (.func (.func 90) #[] #[.pointer (Az C)])∧At o w.heap.size 9 (.bool d)∧At o w.heap.size 14 (.slice (Az D) n n)):=⟨hS,hR,Qc β1 hb,Qa hb HK.out.1,Qa hb HK.out.2.1,Qa hb HK.out.2.2⟩;have ac:S.length≤1000:=(by rw [← hS] at hL;simpa using hL);clear hb hS hR)
 go_loopg [4,6,11] S.length (fun gk s4 s6 a8 wx=>∃ i:Nat,i≤S.length∧gk=S.length - i∧a8=I (i:Int)∧((S.take i).any fun s=>cvL mw f d s.2.2)=false∧Bl o wx)
 case atStart=>exact ⟨0,γ,rfl,rfl,ξ,Qe _⟩
 case round =>
  obtain ⟨i,hi,rfl,rfl,P,N⟩:=hrel;have K:Hid (((S.take i).any fun s=>cvL mw f d s.2.2)=false∧Bl o wr):=⟨P,N⟩;clear P N;by_cases h1:i<S.length
  ·have i1:(i:Int)<(S.length:Int):=γ;have i0:(0:Int)≤(i:Int):=γ;have e1:S.take (i+1)=S.take i ++ [S[i]]:=by first | exact (List.take_append_getElem h1).symm | exact (List.take_concat_get' _ _ h1).symm | exact List.take_succ_eq_append_getElem h1
   have T:S[i]∈S:=Lm h1;have c0:=Qa K.out.2 (j.out.2.1.1 i h1);have hN:=(j.out.2.1.2 _ T);generalize S[i]=u at c0 e1 T hN;obtain ⟨lb,lc,l⟩:=u;dsimp only at c0 hN;have G:=HH.out.2 l (by rw [← j.out.1];exact List.mem_map.mpr ⟨_,T,rfl⟩);have ad:l.length≤300:=G.1;have J:Hid (NumR o (Az lb) l∧(∀ x∈l,x<n)∧S.take (i+1)=S.take i ++ [(lb,lc,l)]∧(lb,lc,l)∈S):=⟨hN,G.2,e1,T⟩;clear e1 T hN G;go_wp2;go_loopg [6,17] l.length (fun gk s6 aa wx=>∃ q:Nat,q≤l.length∧gk=l.length - q∧aa=I (q:Int)∧((l.take q).any (cvI mw f d l))=false∧Bl o wx)
   case atStart=>exact ⟨0,γ,rfl,rfl,ξ,K.out.2⟩
   case round =>
    clear c0;obtain ⟨q,hq,rfl,rfl,P,N⟩:=hrel;have p:Hid (((l.take q).any (cvI mw f d l))=false∧Bl o wr):=⟨P,N⟩;clear P N;by_cases h2:q<l.length
    ·have q1:(q:Int)<(l.length:Int):=γ;have q0:(0:Int)≤(q:Int):=γ;have e2:l.take (q+1)=l.take q ++ [l[q]]:=by first | exact (List.take_append_getElem h2).symm | exact (List.take_concat_get' _ _ h2).symm | exact List.take_succ_eq_append_getElem h2
     obtain ⟨lg,Q,d0⟩:=(J.out.1.kept p.out.2) q h2;obtain rfl:lb=lg:=by simpa using Q
     have H:=J.out.2.1 _ (Lm h2);have A:l[q]∈l:=Lm h2;generalize l[q]=x at d0 e2 H A;clear Q;have x0:(0:Int)≤(x:Int):=γ;have x1:(x:Int)<(n:Int):=γ;have a7:=Qa p.out.2 j.out.2.2.2.2.2;have y0:=(((HH.out.1.kept j.out.2.2.1).kept p.out.2) x H).1;have zw:=Bt a7;have zv:=Bt y0;have zl:=Bt d0
     cases hmx:mw x with
     | false =>
      rw [hmx] at y0
      have B:Hid (((l.take (q+1)).any (cvI mw f d l))=false):=by
       have h:((l.take (q+1)).any (cvI mw f d l))=false:=by rw [e2,List.any_append,p.out.1];simp [cvI,hmx]
       exact h
      clear e2 hmx A;go_wp2;go_roundg (l.length - (q+1))
      case measure=>omega
      case rel=>exact ⟨q+1,γ,rfl,σ,B.out,Qb p.out.2⟩
     | true =>
      rw [hmx] at y0
      have W:Hid (Cl 35 #[.slice (Az lb) l.length lc,.func (.func 73) #[] #[.pointer (Az w.heap.size),.pointer (Az wr.heap.size)]] (wr.alloc (.cells #[I (x:Int)] 3)) fun e w'=>e=.returned (.bool (l.any fun b => !mw b && (f b x == d)))∧Below (wr.alloc (.cells #[I (x:Int)] 3)).heap.size (wr.alloc (.cells #[I (x:Int)] 3)) w'):=by
       have O:Bl o (wr.alloc (.cells #[I (x:Int)] 3)):=Qb p.out.2
       have E:=hasNum_any (Az lb) lc w.heap.size wr.heap.size l (fun b => !mw b && (f b x == d)) (wr.alloc (.cells #[I (x:Int)] 3)) γ (J.out.1.kept O) (fun V b hV hb=>by
        have z:=Qc O hV;have F:=J.out.2.1 b hb;exact covered_asks w.heap.size wr.heap.size C D n b x d (f b x) (mw b) V F γ (Qa z j.out.2.2.2.2.2) (Qa z j.out.2.2.2.1) (Qa z j.out.2.2.2.2.1) (Qa hV δ) (((HH.out.1.kept j.out.2.2.1).kept z) b F).1 (fun U hU=>a6.out U b x (Qc (Qc j.out.2.2.1 z) hU) F H))
       exact E
      cases hcv:(l.any fun b => !mw b && (f b x == d)) with
      | false =>
       rw [hcv] at W
       have B:Hid (((l.take (q+1)).any (cvI mw f d l))=false):=by
        have h:((l.take (q+1)).any (cvI mw f d l))=false:=by
         rw [e2,List.any_append,p.out.1];unfold cvI;simp only [List.any_cons,List.any_nil,hcv,Bool.and_false,Bool.or_false]
        exact h
       clear e2 hmx hcv A;go_wp2_with (go_at_call 35;refine W.out.mono ?_;rintro e w6 ⟨rfl,hb⟩;have H6:Hid (Bl o w6):=Qc (Qb p.out.2) hb;clear hb)
       go_roundg (l.length - (q+1))
       case measure=>omega
       case rel=>exact ⟨q+1,γ,rfl,σ,B.out,H6.out⟩
      | true =>
       rw [hcv] at W
       have B:Hid (r.any (cvL mw f d)=true):=by
        have h:r.any (cvL mw f d)=true:=by
         rw [← j.out.1];refine List.any_eq_true.mpr ⟨l,List.mem_map.mpr ⟨_,J.out.2.2.2,rfl⟩, ?_⟩;unfold cvL;refine List.any_eq_true.mpr ⟨x,A, ?_⟩;unfold cvI;rw [hmx,hcv];rfl
        exact h
       clear e2 hmx hcv A;go_wp2_with (go_at_call 35;refine W.out.mono ?_;rintro e w6 ⟨rfl,hb⟩;have H6:Hid (Bl o w6):=Qc (Qb p.out.2) hb;clear hb)
       refine bodyPost_ret (v:=.bool true) (by simp [results,Tryz.results29,go_sem]) rfl ⟨by rw [B.out],Qc j.out.2.2.1 H6.out⟩
    ·have q1:¬ (q:Int)<(l.length:Int):=γ;obtain rfl:q=l.length:=γ
     have B:Hid (((S.take (i+1)).any fun s=>cvL mw f d s.2.2)=false):=by
      have h:((S.take (i+1)).any fun s=>cvL mw f d s.2.2)=false:=by
       have E:=p.out.1;rw [List.take_length] at E;rw [J.out.2.2.1,List.any_append,K.out.1];simp only [List.any_cons,List.any_nil,Bool.or_false,Bool.false_or];exact E
      exact h
     go_wp2;go_roundg (S.length - (i+1))
     case measure=>omega
     case rel=>exact ⟨i+1,γ,rfl,σ,B.out,p.out.2⟩
  ·have i1:¬ (i:Int)<(S.length:Int):=γ;obtain rfl:i=S.length:=γ
   have B:Hid (r.any (cvL mw f d)=false):=by
    have h:r.any (cvL mw f d)=false:=by
     have E:=K.out.1;rw [List.take_length] at E;rw [← j.out.1,List.any_map];exact E
    exact h
   go_wp2;refine bodyPost_ret (v:=.bool false) (by simp [results,Tryz.results29,go_sem]) rfl ⟨by rw [B.out],Qc j.out.2.2.1 K.out.2⟩
theorem own_seams {w:World} {base:Nat} {v:Value} {l:List (E4×Int)} (h:w.ownsRow base 142 5 v l.length (flatJ l)):∃ a b,v=.slice a l.length b∧JRow w a l:=by
 rcases h.2 with ⟨rfl,h0⟩ | ⟨g,b,c,rfl,_⟩
 ·exact ⟨none,0,by rw [h0],fun i hi=>by omega⟩
 ·refine ⟨Az g,b,rfl,fun i hi=>⟨g,rfl, ?_⟩⟩;have f:=Gd l i hi;exact ⟨(h.cellAt _ γ).trans f.1,(h.cellAt _ γ).trans f.2.1,(h.cellAt _ γ).trans f.2.2.1,(h.cellAt _ γ).trans f.2.2.2.1,(h.cellAt _ γ).trans f.2.2.2.2⟩
theorem unfolds_asks (t a k:Value) (pb:Nat) (A B C E z d:Int) (w:World) (k0:At w pb 0 t) (k1:At w pb 1 a) (k2:At w pb 2 k)
  (b:∀ V:World,Bl w V→Rt 48 #[.agg #[t,a,k],.agg #[I A,I B,I C,I E]] V (I d)) :
  Rt 76 #[.agg #[I A,I B,I C,I E,I z],.pointer (Az pb)] w (.bool (!decide (d=0))):=by
 have c:=Hd b;clear b;have h:=Bt k0;go_enter Tryz.func76,Tryz.ntmps76;go_wp2_with (go_at_call 48;refine (c.out _ β1).mono ?_;rintro e g ⟨rfl,hb⟩;have f:=Hd (Qc β1 hb);clear hb)
 go_ret;exact ⟨by first | rfl | (congr 2;rw [Bool.eq_iff_iff];simp),f.out⟩
theorem indexSeams_any (s:Option Addr) (A pb:Nat) (l:List (E4×Int)) (f:E4×Int→Bool) (w:World) (hl:l.length≤1000) (p:JRow w s l)
  (b:∀ (V:World) (j:E4×Int),Bl w V→j∈l→Rt 76 #[.agg #[I j.1.1,I j.1.2.1,I j.1.2.2.1,I j.1.2.2.2,I j.2],.pointer (Az pb)] V (.bool (f j))) :
  Cl 125 #[.slice s l.length A,.func (.func 76) #[] #[.pointer (Az pb)]] w fun e w'=>∃ r:Int,e=.returned (I r)∧decide (0≤r)=l.any f∧Bl w w':=by
 have d:=Hd b;have t:=Hd p;clear b p;go_enter Tryz.func125,Tryz.ntmps125;go_wp2;go_loopg [5,8] l.length (fun x E z C=>∃ i:Nat,i≤l.length∧x=l.length - i∧z=I (i:Int)∧(l.take i).any f=false∧Bl w C)
 case atStart=>exact ⟨0,γ,rfl,rfl,ξ,Qe _⟩
 case round =>
  obtain ⟨i,hi,rfl,rfl,q,o⟩:=hrel;have a:=H2 q o;clear q o;by_cases h1:i<l.length
  ·have y:(i:Int)<(l.length:Int):=γ;have D:(0:Int)≤(i:Int):=γ;obtain ⟨g,hg,c0,c1,c2,c3,c4⟩:=(t.out.kept a.out.2) i h1;subst hg;have e:l.take (i+1)=l.take i ++ [l[i]]:=by first | exact (List.take_append_getElem h1).symm | exact (List.take_concat_get' _ _ h1).symm | exact List.take_succ_eq_append_getElem h1
   have CA:=d.out wr l[i] a.out.2 (Lm h1);have c:l[i]∈l:=Lm h1;generalize l[i]=u at c0 c1 c2 c3 c4 e CA c
   cases hu:f u with
   | false =>
    rw [hu] at CA
    have n:Hid ((l.take (i+1)).any f=false):=by
     have h:(l.take (i+1)).any f=false:=by rw [e,List.any_append,a.out.1];simp [hu]
     exact h
    have k:=Hd CA;clear e hu CA c;go_wp2_with (go_at_call 76;refine k.out.mono ?_;rintro e B ⟨rfl,hb⟩;have m:=Hd (Qc a.out.2 hb);clear hb)
    go_roundg (l.length - (i+1))
    case measure=>omega
    case rel=>exact ⟨i+1,γ,rfl,σ,n.out,m.out⟩
   | true =>
    rw [hu] at CA
    have n:Hid (l.any f=true):=by
     have h:l.any f=true:=List.any_eq_true.mpr ⟨u,c,hu⟩;exact h
    have k:=Hd CA;clear e hu CA c;go_wp2_with (go_at_call 76;refine k.out.mono ?_;rintro e B ⟨rfl,hb⟩;have m:=Hd (Qc a.out.2 hb);clear hb)
    refine bodyPost_ret (v:=I (i:Int)) (by simp [results,Tryz.results125,go_sem]) rfl ⟨(i:Int),rfl, ?_,m.out⟩;rw [n.out];simp
  ·have y:¬ (i:Int)<(l.length:Int):=γ;obtain rfl:i=l.length:=γ;go_wp2;refine bodyPost_ret (v:=I (-1)) (by simp [results,Tryz.results125,go_sem]) rfl ⟨-1,rfl, ?_,a.out.2⟩;have:=a.out.1;rw [List.take_length] at this;rw [this];rfl
theorem hasSeam_any (c:Option Addr) (h pb:Nat) (l:List (E4×Int)) (f:E4×Int→Bool) (w:World) (hl:l.length≤1000) (g:JRow w c l)
  (b:∀ (V:World) (j:E4×Int),Bl w V→j∈l→Rt 76 #[.agg #[I j.1.1,I j.1.2.1,I j.1.2.2.1,I j.1.2.2.2,I j.2],.pointer (Az pb)] V (.bool (f j))) :
  Rt 74 #[.slice c l.length h,.func (.func 76) #[] #[.pointer (Az pb)]] w (.bool (l.any f)):=by
 have a:=Hd (indexSeams_any c h pb l f w hl g b);clear g b;go_enter Tryz.func74,Tryz.ntmps74;go_wp2_with (go_at_call 125;refine a.out.mono ?_;rintro e i ⟨r,rfl,hr,hb⟩;have d:=H2 hr hb;clear hr hb)
 refine bodyPost_ret (v:=.bool (decide (0≤r))) (by simp [results,Tryz.results74,go_sem]) rfl ⟨by rw [d.out.1],d.out.2⟩
theorem unfolds_any (t a k m pl d p c sd n i g h f mv:Value) (l:List (E4×Int)) (kd:E4→Int) (w:World) (hl:l.length≤1000)
  (r:∀ V:World,Bl w V→Cl 75 #[.agg #[t,a,k,m,pl,d,p,c,sd,n,i,g,h,f,mv]] V fun e w'=>∃ v,e=.returned v∧w'.ownsRow V.heap.size 142 5 v l.length (flatJ l)∧Bl V w')
  (q:∀ (V:World) (A B C E:Int),Bl w V→Rt 48 #[.agg #[t,a,k],.agg #[I A,I B,I C,I E]] V (I (kd (A,B,C,E)))) :
  Rt 30 #[.agg #[t,a,k,m,pl,d,p,c,sd,n,i,g,h,f,mv]] w (.bool (l.any fun j => !decide (kd j.1=0))):=by
 have x:Hid (∀ V:World,Bl w V→Cl 75 #[.agg #[t,a,k,m,pl,d,p,c,sd,n,i,g,h,f,mv]] V fun e w'=>∃ v,e=.returned v∧w'.ownsRow V.heap.size 142 5 v l.length (flatJ l)∧Bl V w'):=r;have u:Hid (∀ (V:World) (A B C E:Int),Bl w V→Rt 48 #[.agg #[t,a,k],.agg #[I A,I B,I C,I E]] V (I (kd (A,B,C,E)))):=q;have y:Hid ((w.alloc (.cells #[t,a,k,m,pl,d,p,c,sd,n,i,g,h,f,mv] 66)).cell? ⟨w.heap.size,0,none⟩=some t∧(w.alloc (.cells #[t,a,k,m,pl,d,p,c,sd,n,i,g,h,f,mv] 66)).cell? ⟨w.heap.size,1,none⟩=some a∧(w.alloc (.cells #[t,a,k,m,pl,d,p,c,sd,n,i,g,h,f,mv] 66)).cell? ⟨w.heap.size,2,none⟩=some k):=⟨δ,δ,δ⟩;clear r q;go_enter Tryz.func30,Tryz.ntmps30
 go_wp2_with (first
  | (go_at_call 75;refine (x.out _ β1).mono ?_;rintro e o ⟨v,rfl,D,hb⟩;obtain ⟨F,J,rfl,z⟩:=own_seams D;have b:Hid (JRow o F l∧Bl w o∧At o w.heap.size 0 t∧At o w.heap.size 1 a∧At o w.heap.size 2 k):=⟨z,Qc β1 hb,Qa hb y.out.1,Qa hb y.out.2.1,Qa hb y.out.2.2⟩;clear D hb z)
  | (go_at_call 74;refine (hasSeam_any F J w.heap.size l (fun j => !decide (kd j.1=0)) o hl b.out.1 (fun V j s L=>unfolds_asks t a k w.heap.size j.1.1 j.1.2.1 j.1.2.2.1 j.1.2.2.2 j.2 (kd j.1) V (Qa s b.out.2.2.1) (Qa s b.out.2.2.2.1) (Qa s b.out.2.2.2.2) (fun U H=>u.out U j.1.1 j.1.2.1 j.1.2.2.1 j.1.2.2.2 (Qc (Qc b.out.2.1 s) H)))).mono ?_;rintro e K ⟨rfl,hb⟩;have G:Hid (Bl w K):=Qc b.out.2.1 hb;clear hb)
  | fail)
 go_ret;exact ⟨rfl,G.out⟩
end Go.Proofs.YtjkjpopghkeibaaGreatDoor
