/- A part of it. -/
import Derived.Test.YtbjmnlefkbhbdaaGreatDoorQlal
set_option maxRecDepth 100000
set_option maxHeartbeats 40000000
namespace Go.Proofs.YtbjmnlefkbhbdaaGreatDoor
open Go.RowKit Go.ChangeMaps
theorem covered_asks (pb k i j n x y:Nat) (d c bx:Bool) (w:World) (o:x<n) (_m:n≤1000) (e:At w pb 14 (.slice (Az j) n n)) (p:At w pb 5 (.func (.func 87) #[] #[.pointer (Az i)])) (q:At w pb 9 (.bool d)) (r0:At w k 0 (I (y:Int))) (c0:At w j x (.bool bx))
  (b:∀ V:World,Bl w V→Rt 87 #[I (x:Int),I (y:Int),.pointer (Az i)] V (.bool c)) :
  Rt 122 #[I (x:Int),.pointer (Az pb),.pointer (Az k)] w (.bool (!bx && (c == d))):=by
 have a:=Hd b;clear b;have r:(0:Int)≤(x:Int):=γ;have x1:(x:Int)<(n:Int):=γ;have t:=Bt e;have u:=Bt r0;have s:=Bt c0
 cases bx with
 | true =>
  go_enter Tryz.func122,Tryz.ntmps122;go_upto_region 1 with fail
  obtain ⟨f,g⟩:=kcn w;refine wk ?_;repeat (go_big_quiet_step ((first | (go_at_call 87;(with_reducible exact Qm (a.out _ (Kin.h _)))) | fail)))
  refine kq1 (fun l hq=>?_);clear f g;go_wp2;go_ret;exact ⟨by first | rfl | (cases c <;> cases d <;> rfl) | simp,hq⟩
 | false =>
  go_enter Tryz.func122,Tryz.ntmps122;go_upto_region 1 with fail
  obtain ⟨f,g⟩:=kcn w;refine wk ?_;repeat (go_big_quiet_step ((first | (go_at_call 87;(with_reducible exact Qm (a.out _ (Kin.h _)))) | fail)))
  refine kq1 (fun l hq=>?_);clear f g;go_wp2;go_ret;exact ⟨by first | rfl | (cases c <;> cases d <;> rfl) | simp,hq⟩
def cvI (mw:Nat→Bool) (ab:Nat→Nat→Bool) (ov:Bool) (l:List Nat) (x:Nat):Bool:=mw x && l.any fun b => !mw b && (ab b x == ov)
def cvL (mw:Nat→Bool) (ab:Nat→Nat→Bool) (ov:Bool) (l:List Nat):Bool:=l.any (cvI mw ab ov l)
theorem covered_any (t a k m pl wy c sd ly Y Z X:Value) (C D n:Nat) (d:Bool) (mw:Nat→Bool) (f:Nat→Nat→Bool) (r:List (List Nat)) (w:World) (hn:n≤300) (hL:r.length≤1000) (hM:YRow w D n mw) (R:∀ l∈r,l.length≤300∧∀ x∈l,x<n)
  (L:∀ V:World,Bl w V→Cl 98 #[.agg #[t,a,k,m,pl]] V fun e w'=>∃ (g q:Nat) (S:List (Nat×Nat×List Nat)),e=.returned (.slice (Az g) S.length q)∧S.map (fun s=>s.2.2)=r∧((∀ i (h:i<S.length),At w' g i (.slice (Az (S[i].1)) S[i].2.2.length S[i].2.1))∧(∀ s∈S,NumR w' (Az s.1) s.2.2))∧Bl V w')
  (M:∀ (V:World) (x y:Nat),Bl w V→x<n→y<n→Rt 87 #[I (x:Int),I (y:Int),.pointer (Az C)] V (.bool (f x y))) :
  Rt 78 #[.agg #[t,a,k,m,pl,.func (.func 87) #[] #[.pointer (Az C)],wy,c,sd,.bool d,ly,Y,Z,X,.slice (Az D) n n]] w (.bool (r.any (cvL mw f d))):=by
 have a2:Hid (∀ V:World,Bl w V→Cl 98 #[.agg #[t,a,k,m,pl]] V fun e w'=>∃ (g q:Nat) (S:List (Nat×Nat×List Nat)),e=.returned (.slice (Az g) S.length q)∧S.map (fun s=>s.2.2)=r∧((∀ i (h:i<S.length),At w' g i (.slice (Az (S[i].1)) S[i].2.2.length S[i].2.1))∧(∀ s∈S,NumR w' (Az s.1) s.2.2))∧Bl V w'):=L;have a6:Hid (∀ (V:World) (x y:Nat),Bl w V→x<n→y<n→Rt 87 #[I (x:Int),I (y:Int),.pointer (Az C)] V (.bool (f x y))):=M;have HH:Hid (YRow w D n mw∧∀ l∈r,l.length≤300∧∀ x∈l,x<n):=⟨hM,R⟩;have HK:Hid ((w.alloc (.cells #[t,a,k,m,pl,.func (.func 87) #[] #[.pointer (Az C)],wy,c,sd,.bool d,ly,Y,Z,X,.slice (Az D) n n] 105)).cell? ⟨w.heap.size,5,none⟩=some (.func (.func 87) #[] #[.pointer (Az C)])∧(w.alloc (.cells #[t,a,k,m,pl,.func (.func 87) #[] #[.pointer (Az C)],wy,c,sd,.bool d,ly,Y,Z,X,.slice (Az D) n n] 105)).cell? ⟨w.heap.size,9,none⟩=some (.bool d)∧(w.alloc (.cells #[t,a,k,m,pl,.func (.func 87) #[] #[.pointer (Az C)],wy,c,sd,.bool d,ly,Y,Z,X,.slice (Az D) n n] 105)).cell? ⟨w.heap.size,14,none⟩=some (.slice (Az D) n n)):=⟨ζ,ζ,ζ⟩;clear L M hM R;go_enter Tryz.func78,Tryz.ntmps78;go_wp2_with (go_at_call 98;refine (a2.out _ β1).mono ?_;rintro e o ⟨g,gq,S,rfl,hS,hR,hb⟩;have j:Hid (S.map (fun s=>s.2.2)=r∧((∀ i (h:i<S.length),At o g i (.slice (Az (S[i].1)) S[i].2.2.length S[i].2.1))∧(∀ s∈S,NumR o (Az s.1) s.2.2))∧Bl w o∧At o w.heap.size 5 (.func (.func 87) #[] #[.pointer (Az C)])∧At o w.heap.size 9 (.bool d)∧At o w.heap.size 14 (.slice (Az D) n n)):=⟨hS,hR,Qb β1 hb,Qa hb HK.out.1,Qa hb HK.out.2.1,Qa hb HK.out.2.2⟩;have ac:S.length≤1000:=(by rw [← hS] at hL;simpa using hL);clear hb hS hR)
 go_loopg [4,6,11] S.length (fun gk s4 s6 a8 wx=>∃ i:Nat,i≤S.length∧gk=S.length - i∧a8=I (i:Int)∧((S.take i).any fun s=>cvL mw f d s.2.2)=false∧Bl o wx)
 case atStart=>exact ⟨0,γ,rfl,rfl,ν,Qd _⟩
 case round =>
  obtain ⟨i,hi,rfl,rfl,P,N⟩:=hrel;have K:Hid (((S.take i).any fun s=>cvL mw f d s.2.2)=false∧Bl o wr):=⟨P,N⟩;clear P N;by_cases h1:i<S.length
  ·have i1:(i:Int)<(S.length:Int):=γ;have i0:(0:Int)≤(i:Int):=γ;have e1:S.take (i+1)=S.take i ++ [S[i]]:=by first | exact (List.take_append_getElem h1).symm | exact (List.take_concat_get' _ _ h1).symm | exact List.take_succ_eq_append_getElem h1
   have T:S[i]∈S:=Lm h1;have c0:=Qa K.out.2 (j.out.2.1.1 i h1);have hN:=(j.out.2.1.2 _ T);generalize S[i]=u at c0 e1 T hN;obtain ⟨lb,lc,l⟩:=u;dsimp only at c0 hN;have G:=HH.out.2 l (by rw [← j.out.1];exact List.mem_map.mpr ⟨_,T,rfl⟩);have ad:l.length≤300:=G.1;have J:Hid (NumR o (Az lb) l∧(∀ x∈l,x<n)∧S.take (i+1)=S.take i ++ [(lb,lc,l)]∧(lb,lc,l)∈S):=⟨hN,G.2,e1,T⟩;clear e1 T hN G;go_wp2;go_loopg [6,17] l.length (fun gk s6 aa wx=>∃ q:Nat,q≤l.length∧gk=l.length - q∧aa=I (q:Int)∧((l.take q).any (cvI mw f d l))=false∧Bl o wx)
   case atStart=>exact ⟨0,γ,rfl,rfl,ν,K.out.2⟩
   case round =>
    clear c0;obtain ⟨q,hq,rfl,rfl,P,N⟩:=hrel;have p:Hid (((l.take q).any (cvI mw f d l))=false∧Bl o wr):=⟨P,N⟩;clear P N;by_cases h2:q<l.length
    ·have q1:(q:Int)<(l.length:Int):=γ;have q0:(0:Int)≤(q:Int):=γ;have e2:l.take (q+1)=l.take q ++ [l[q]]:=by first | exact (List.take_append_getElem h2).symm | exact (List.take_concat_get' _ _ h2).symm | exact List.take_succ_eq_append_getElem h2
     obtain ⟨lg,Q,d0⟩:=(J.out.1.kept p.out.2) q h2;obtain rfl:lb=lg:=by simpa using Q
     have H:=J.out.2.1 _ (Lm h2);have A:l[q]∈l:=Lm h2;generalize l[q]=x at d0 e2 H A;clear Q;have x0:(0:Int)≤(x:Int):=γ;have x1:(x:Int)<(n:Int):=γ;have a7:=Qa p.out.2 j.out.2.2.2.2.2;have y0:=(((HH.out.1.kept j.out.2.2.1).kept p.out.2) x H).1;have zw:=Bt a7;have zv:=Bt y0;have zl:=Bt d0
     cases hmx:mw x with
     | false =>
      rw [hmx] at y0
      have B:Hid (((l.take (q+1)).any (cvI mw f d l))=false):=by
       have h:((l.take (q+1)).any (cvI mw f d l))=false:=by rw [e2,List.any_append,p.out.1];simp [cvI,hmx]
       exact h
      clear e2 hmx A;go_wp2;go_roundg (l.length - (q+1))
      case measure=>omega
      case rel=>exact ⟨q+1,γ,rfl,σ,B.out,Qc p.out.2⟩
     | true =>
      rw [hmx] at y0
      have W:Hid (Cl 121 #[.slice (Az lb) l.length lc,.func (.func 122) #[] #[.pointer (Az w.heap.size),.pointer (Az wr.heap.size)]] (wr.alloc (.cells #[I (x:Int)] 3)) fun e w'=>e=.returned (.bool (l.any fun b => !mw b && (f b x == d)))∧Below (wr.alloc (.cells #[I (x:Int)] 3)).heap.size (wr.alloc (.cells #[I (x:Int)] 3)) w'):=by
       have O:Bl o (wr.alloc (.cells #[I (x:Int)] 3)):=Qc p.out.2
       have E:=hasNum_any (Az lb) lc w.heap.size wr.heap.size l (fun b => !mw b && (f b x == d)) (wr.alloc (.cells #[I (x:Int)] 3)) γ (J.out.1.kept O) (fun V b hV hb=>by
        have z:=Qb O hV;have F:=J.out.2.1 b hb;exact covered_asks w.heap.size wr.heap.size C D n b x d (f b x) (mw b) V F γ (Qa z j.out.2.2.2.2.2) (Qa z j.out.2.2.2.1) (Qa z j.out.2.2.2.2.1) (Qa hV ζ) (((HH.out.1.kept j.out.2.2.1).kept z) b F).1 (fun U hU=>a6.out U b x (Qb (Qb j.out.2.2.1 z) hU) F H))
       exact E
      cases hcv:(l.any fun b => !mw b && (f b x == d)) with
      | false =>
       rw [hcv] at W
       have B:Hid (((l.take (q+1)).any (cvI mw f d l))=false):=by
        have h:((l.take (q+1)).any (cvI mw f d l))=false:=by
         rw [e2,List.any_append,p.out.1];unfold cvI;simp only [List.any_cons,List.any_nil,hcv,Bool.and_false,Bool.or_false]
        exact h
       clear e2 hmx hcv A;go_wp2_with (go_at_call 121;refine W.out.mono ?_;rintro e w6 ⟨rfl,hb⟩;have H6:Hid (Bl o w6):=Qb (Qc p.out.2) hb;clear hb)
       go_roundg (l.length - (q+1))
       case measure=>omega
       case rel=>exact ⟨q+1,γ,rfl,σ,B.out,H6.out⟩
      | true =>
       rw [hcv] at W
       have B:Hid (r.any (cvL mw f d)=true):=by
        have h:r.any (cvL mw f d)=true:=by
         rw [← j.out.1];refine List.any_eq_true.mpr ⟨l,List.mem_map.mpr ⟨_,J.out.2.2.2,rfl⟩, ?_⟩;unfold cvL;refine List.any_eq_true.mpr ⟨x,A, ?_⟩;unfold cvI;rw [hmx,hcv];rfl
        exact h
       clear e2 hmx hcv A;go_wp2_with (go_at_call 121;refine W.out.mono ?_;rintro e w6 ⟨rfl,hb⟩;have H6:Hid (Bl o w6):=Qb (Qc p.out.2) hb;clear hb)
       refine bodyPost_ret (v:=.bool true) (by simp [results,Tryz.results78,go_sem]) rfl ⟨by rw [B.out],Qb j.out.2.2.1 H6.out⟩
    ·have q1:¬ (q:Int)<(l.length:Int):=γ;obtain rfl:q=l.length:=γ
     have B:Hid (((S.take (i+1)).any fun s=>cvL mw f d s.2.2)=false):=by
      have h:((S.take (i+1)).any fun s=>cvL mw f d s.2.2)=false:=by
       have E:=p.out.1;rw [List.take_length] at E;rw [J.out.2.2.1,List.any_append,K.out.1];simp only [List.any_cons,List.any_nil,Bool.or_false,Bool.false_or];exact E
      exact h
     go_wp2;go_roundg (S.length - (i+1))
     case measure=>omega
     case rel=>exact ⟨i+1,γ,rfl,σ,B.out,p.out.2⟩
  ·have i1:¬ (i:Int)<(S.length:Int):=γ;obtain rfl:i=S.length:=γ
   have B:Hid (r.any (cvL mw f d)=false):=by
    have h:r.any (cvL mw f d)=false:=by
     have E:=K.out.1;rw [List.take_length] at E;rw [← j.out.1,List.any_map];exact E
    exact h
   go_wp2;refine bodyPost_ret (v:=.bool false) (by simp [results,Tryz.results78,go_sem]) rfl ⟨by rw [B.out],Qb j.out.2.2.1 K.out.2⟩
theorem ranks_any (v0 g h v3 v4 v5 i j k v9 a b c d f:Value) (w:World):Cl 82 #[.agg #[v0,g,h,v3,v4,v5,i,j,k,v9,a,b,c,d,f]] w fun e w'=>e=.returned (.func (.func 130) #[] #[.pointer (Az w.heap.size)])∧w'=w.alloc (.cells #[v0,g,h,v3,v4,v5,i,j,k,v9,a,b,c,d,f] 105):=by
 go_enter Tryz.func82,Tryz.ntmps82;go_wp2;go_ret;exact ⟨rfl,rfl⟩
theorem ranks_asks (pb t u n x y:Nat) (r a1 v bx h:Bool) (w:World) (E:x<n) (F:y<n) (_D:n≤1000) (c:At w pb 14 (.slice (Az u) n n)) (p:At w pb 5 (.func (.func 87) #[] #[.pointer (Az t)])) (q:At w pb 9 (.bool r)) (c0:At w u x (.bool bx)) (c1:At w u y (.bool h))
  (h1:∀ V:World,Bl w V→Rt 87 #[I (x:Int),I (y:Int),.pointer (Az t)] V (.bool a1))
  (h2:∀ V:World,Bl w V→Rt 87 #[I (y:Int),I (x:Int),.pointer (Az t)] V (.bool v)) :
  Rt 130 #[I (x:Int),I (y:Int),.pointer (Az pb)] w (.bool (if bx=h then (if bx=true then v else a1) else bx == r)):=by
 have z:=Hd h1;have A:=Hd h2;clear h1 h2;have G:(0:Int)≤(x:Int):=γ;have x1:(x:Int)<(n:Int):=γ;have H:(0:Int)≤(y:Int):=γ;have y1:(y:Int)<(n:Int):=γ;have K:=Bt c;have J:=Bt c0
 cases bx <;> cases h
 ·go_enter Tryz.func130,Tryz.ntmps130;go_upto_region 1 with fail
  obtain ⟨d,f⟩:=kcn w;refine wk ?_;repeat (go_big_quiet_step (fail))
  refine kq1 (fun o hq=>?_);clear d f;have a:=Qa hq c;have j:=Qa hq p;have k:=Qa hq q;have b:=Qa hq c0;have i:=Qa hq c1;have m:=Bt a;have l:=Bt b;have g:=Hd hq;clear hq;go_wp2_with (go_at_call 87;(with_reducible refine (z.out _ g.out).mono ?_);rintro e B ⟨rfl,hb⟩;have s:=Hd (Qb g.out hb);clear hb)
  go_ret;exact ⟨rfl,s.out⟩
 ·go_enter Tryz.func130,Tryz.ntmps130;go_upto_region 1 with fail
  obtain ⟨d,f⟩:=kcn w;refine wk ?_;repeat (go_big_quiet_step (fail))
  refine kq1 (fun o hq=>?_);clear d f;have a:=Qa hq c;have j:=Qa hq p;have k:=Qa hq q;have b:=Qa hq c0;have i:=Qa hq c1;have m:=Bt a;have l:=Bt b;have g:=Hd hq;clear hq;go_upto_region 2 with fail
  obtain ⟨d,f⟩:=kcn o;refine wk ?_;repeat (go_big_quiet_step (fail))
  refine kq1 (fun C hq=>?_);clear d f;go_wp2;go_ret;exact ⟨by cases r <;> rfl,Qb g.out hq⟩
 ·go_enter Tryz.func130,Tryz.ntmps130;go_upto_region 1 with fail
  obtain ⟨d,f⟩:=kcn w;refine wk ?_;repeat (go_big_quiet_step (fail))
  refine kq1 (fun o hq=>?_);clear d f;have a:=Qa hq c;have j:=Qa hq p;have k:=Qa hq q;have b:=Qa hq c0;have i:=Qa hq c1;have m:=Bt a;have l:=Bt b;have g:=Hd hq;clear hq;go_upto_region 2 with fail
  obtain ⟨d,f⟩:=kcn o;refine wk ?_;repeat (go_big_quiet_step (fail))
  refine kq1 (fun C hq=>?_);clear d f;go_wp2;go_ret;exact ⟨by cases r <;> rfl,Qb g.out hq⟩
 ·go_enter Tryz.func130,Tryz.ntmps130;go_upto_region 1 with fail
  obtain ⟨d,f⟩:=kcn w;refine wk ?_;repeat (go_big_quiet_step (fail))
  refine kq1 (fun o hq=>?_);clear d f;have a:=Qa hq c;have j:=Qa hq p;have k:=Qa hq q;have b:=Qa hq c0;have i:=Qa hq c1;have m:=Bt a;have l:=Bt b;have g:=Hd hq;clear hq;go_wp2_with (go_at_call 87;(with_reducible refine (A.out _ g.out).mono ?_);rintro e B ⟨rfl,hb⟩;have s:=Hd (Qb g.out hb);clear hb)
  go_ret;exact ⟨rfl,s.out⟩
def stpX (v c:Int):Int:=if v=0 then 2*c else if v=1 then 0 else c
def stpY (v c:Int):Int:=if v=0 then 0 else if v=1 then 2*c else if v=2 then c else -c
theorem idxP (a0 a1 a a3 a4 a5 b c:Int) (w:World) :
  (Instr.index 128 (.agg #[I a0,I a1,I a,I a3,I a4,I a5,I b,I c]) (I 0)).run Tryz.prog w=.ok (.agg #[I a0,I a1]) w
  ∧ (Instr.index 128 (.agg #[I a0,I a1,I a,I a3,I a4,I a5,I b,I c]) (I 1)).run Tryz.prog w=.ok (.agg #[I a,I a3]) w
  ∧ (Instr.index 128 (.agg #[I a0,I a1,I a,I a3,I a4,I a5,I b,I c]) (I 2)).run Tryz.prog w=.ok (.agg #[I a4,I a5]) w
  ∧ (Instr.index 128 (.agg #[I a0,I a1,I a,I a3,I a4,I a5,I b,I c]) (I 3)).run Tryz.prog w=.ok (.agg #[I b,I c]) w:=by
 refine ⟨μ,μ,μ,μ⟩
theorem reflected_any (j k l m n o A B C D E F r0 r1 r2 r3 r4 r5 f c e1 e2:Int) (w:World) (hw:0≤f∧f≤3) (hc : -1000000≤c∧c≤1000000) (h4 : -9000000≤r4∧r4≤9000000) (h5 : -9000000≤r5∧r5≤9000000)
  (an:∀ V:World,Bl w V→Rt 31 #[.agg #[I f,I 0]] V (.tuple #[.agg #[I A,I B,I C,I D,I E,I F],I e1]))
  (ao:∀ V:World,Bl w V→Rt 64 #[.agg #[I j,I k,I l,I m,I n,I o],.agg #[I A,I B,I C,I D,I E,I F]] V (.tuple #[.agg #[I r0,I r1,I r2,I r3,I r4,I r5],I e2])) :
  Rt 129 #[.agg #[I j,I k,I l,I m,I n,I o],.agg #[I f,I c]] w (.agg #[I r0,I r1,I r2,I r3,I (r4+stpX f c),I (r5+stpY f c)]):=by
 have ak:=Hd an;have am:=Hd ao;have g:Hid (((((w.alloc (.cells #[I j,I k,I l,I m,I n,I o] 48)).alloc (.cells #[I f,I c] 35)).alloc (.cells #[I 0,I 0,I 0,I 0,I 0,I 0] 48)).cell? ⟨w.heap.size,0,none⟩=some (I j)∧(((w.alloc (.cells #[I j,I k,I l,I m,I n,I o] 48)).alloc (.cells #[I f,I c] 35)).alloc (.cells #[I 0,I 0,I 0,I 0,I 0,I 0] 48)).cell? ⟨w.heap.size,1,none⟩=some (I k)∧(((w.alloc (.cells #[I j,I k,I l,I m,I n,I o] 48)).alloc (.cells #[I f,I c] 35)).alloc (.cells #[I 0,I 0,I 0,I 0,I 0,I 0] 48)).cell? ⟨w.heap.size,2,none⟩=some (I l)∧(((w.alloc (.cells #[I j,I k,I l,I m,I n,I o] 48)).alloc (.cells #[I f,I c] 35)).alloc (.cells #[I 0,I 0,I 0,I 0,I 0,I 0] 48)).cell? ⟨w.heap.size,3,none⟩=some (I m)∧(((w.alloc (.cells #[I j,I k,I l,I m,I n,I o] 48)).alloc (.cells #[I f,I c] 35)).alloc (.cells #[I 0,I 0,I 0,I 0,I 0,I 0] 48)).cell? ⟨w.heap.size,4,none⟩=some (I n)∧(((w.alloc (.cells #[I j,I k,I l,I m,I n,I o] 48)).alloc (.cells #[I f,I c] 35)).alloc (.cells #[I 0,I 0,I 0,I 0,I 0,I 0] 48)).cell? ⟨w.heap.size,5,none⟩=some (I o)∧(((w.alloc (.cells #[I j,I k,I l,I m,I n,I o] 48)).alloc (.cells #[I f,I c] 35)).alloc (.cells #[I 0,I 0,I 0,I 0,I 0,I 0] 48)).cell? ⟨w.heap.size+1,0,none⟩=some (I f)∧(((w.alloc (.cells #[I j,I k,I l,I m,I n,I o] 48)).alloc (.cells #[I f,I c] 35)).alloc (.cells #[I 0,I 0,I 0,I 0,I 0,I 0] 48)).cell? ⟨w.heap.size+1,1,none⟩=some (I c)∧(((w.alloc (.cells #[I j,I k,I l,I m,I n,I o] 48)).alloc (.cells #[I f,I c] 35)).alloc (.cells #[I 0,I 0,I 0,I 0,I 0,I 0] 48)).cell? ⟨w.heap.size+1+1,0,none⟩=some (I 0)∧(((w.alloc (.cells #[I j,I k,I l,I m,I n,I o] 48)).alloc (.cells #[I f,I c] 35)).alloc (.cells #[I 0,I 0,I 0,I 0,I 0,I 0] 48)).cell? ⟨w.heap.size+1+1,1,none⟩=some (I 0)∧(((w.alloc (.cells #[I j,I k,I l,I m,I n,I o] 48)).alloc (.cells #[I f,I c] 35)).alloc (.cells #[I 0,I 0,I 0,I 0,I 0,I 0] 48)).cell? ⟨w.heap.size+1+1,2,none⟩=some (I 0)∧(((w.alloc (.cells #[I j,I k,I l,I m,I n,I o] 48)).alloc (.cells #[I f,I c] 35)).alloc (.cells #[I 0,I 0,I 0,I 0,I 0,I 0] 48)).cell? ⟨w.heap.size+1+1,3,none⟩=some (I 0)∧(((w.alloc (.cells #[I j,I k,I l,I m,I n,I o] 48)).alloc (.cells #[I f,I c] 35)).alloc (.cells #[I 0,I 0,I 0,I 0,I 0,I 0] 48)).cell? ⟨w.heap.size+1+1,4,none⟩=some (I 0)∧(((w.alloc (.cells #[I j,I k,I l,I m,I n,I o] 48)).alloc (.cells #[I f,I c] 35)).alloc (.cells #[I 0,I 0,I 0,I 0,I 0,I 0] 48)).cell? ⟨w.heap.size+1+1,5,none⟩=some (I 0))∧(((w.alloc (.cells #[I j,I k,I l,I m,I n,I o] 48)).alloc (.cells #[I f,I c] 35)).alloc (.cells #[I 0,I 0,I 0,I 0,I 0,I 0] 48)).frozen? ⟨w.heap.size,0,none⟩=false∧(((w.alloc (.cells #[I j,I k,I l,I m,I n,I o] 48)).alloc (.cells #[I f,I c] 35)).alloc (.cells #[I 0,I 0,I 0,I 0,I 0,I 0] 48)).frozen? ⟨w.heap.size,1,none⟩=false∧(((w.alloc (.cells #[I j,I k,I l,I m,I n,I o] 48)).alloc (.cells #[I f,I c] 35)).alloc (.cells #[I 0,I 0,I 0,I 0,I 0,I 0] 48)).frozen? ⟨w.heap.size,2,none⟩=false∧(((w.alloc (.cells #[I j,I k,I l,I m,I n,I o] 48)).alloc (.cells #[I f,I c] 35)).alloc (.cells #[I 0,I 0,I 0,I 0,I 0,I 0] 48)).frozen? ⟨w.heap.size,3,none⟩=false∧(((w.alloc (.cells #[I j,I k,I l,I m,I n,I o] 48)).alloc (.cells #[I f,I c] 35)).alloc (.cells #[I 0,I 0,I 0,I 0,I 0,I 0] 48)).frozen? ⟨w.heap.size,4,none⟩=false∧(((w.alloc (.cells #[I j,I k,I l,I m,I n,I o] 48)).alloc (.cells #[I f,I c] 35)).alloc (.cells #[I 0,I 0,I 0,I 0,I 0,I 0] 48)).frozen? ⟨w.heap.size,5,none⟩=false∧(((w.alloc (.cells #[I j,I k,I l,I m,I n,I o] 48)).alloc (.cells #[I f,I c] 35)).alloc (.cells #[I 0,I 0,I 0,I 0,I 0,I 0] 48)).frozen? ⟨w.heap.size+1+1,0,none⟩=false∧(((w.alloc (.cells #[I j,I k,I l,I m,I n,I o] 48)).alloc (.cells #[I f,I c] 35)).alloc (.cells #[I 0,I 0,I 0,I 0,I 0,I 0] 48)).frozen? ⟨w.heap.size+1+1,1,none⟩=false∧(((w.alloc (.cells #[I j,I k,I l,I m,I n,I o] 48)).alloc (.cells #[I f,I c] 35)).alloc (.cells #[I 0,I 0,I 0,I 0,I 0,I 0] 48)).frozen? ⟨w.heap.size+1+1,2,none⟩=false∧(((w.alloc (.cells #[I j,I k,I l,I m,I n,I o] 48)).alloc (.cells #[I f,I c] 35)).alloc (.cells #[I 0,I 0,I 0,I 0,I 0,I 0] 48)).frozen? ⟨w.heap.size+1+1,3,none⟩=false∧(((w.alloc (.cells #[I j,I k,I l,I m,I n,I o] 48)).alloc (.cells #[I f,I c] 35)).alloc (.cells #[I 0,I 0,I 0,I 0,I 0,I 0] 48)).frozen? ⟨w.heap.size+1+1,4,none⟩=false∧(((w.alloc (.cells #[I j,I k,I l,I m,I n,I o] 48)).alloc (.cells #[I f,I c] 35)).alloc (.cells #[I 0,I 0,I 0,I 0,I 0,I 0] 48)).frozen? ⟨w.heap.size+1+1,5,none⟩=false):=⟨⟨ζ,ζ,ζ,ζ,ζ,ζ,ζ,ζ,ζ,ζ,ζ,ζ,ζ,ζ⟩,ζ,ζ,ζ,ζ,ζ,ζ,ζ,ζ,ζ,ζ,ζ,ζ⟩;clear an ao;go_enter Tryz.func129,Tryz.ntmps129;go_upto_region 2 with (go_at_call 31;(with_reducible refine (ak.out _ β3).mono ?_);rintro e w5 ⟨rfl,hb⟩;have H5:=Hd hb;clear hb)
 refine Qj (fun W2 M=>?_)
 have b:Hid (Bl w W2∧Below (((w.alloc (.cells #[I j,I k,I l,I m,I n,I o] 48)).alloc (.cells #[I f,I c] 35)).alloc (.cells #[I 0,I 0,I 0,I 0,I 0,I 0] 48)).heap.size (((w.alloc (.cells #[I j,I k,I l,I m,I n,I o] 48)).alloc (.cells #[I f,I c] 35)).alloc (.cells #[I 0,I 0,I 0,I 0,I 0,I 0] 48)) W2):=by
  rw [M];exact ⟨Qc (Qb β3 H5.out),Qc H5.out⟩
 have b0:=Qa b.out.2 g.out.1.1;have b1:=Qa b.out.2 g.out.1.2.1;have b2:=Qa b.out.2 g.out.1.2.2.1;have b3:=Qa b.out.2 g.out.1.2.2.2.1;have b4:=Qa b.out.2 g.out.1.2.2.2.2.1;have b5:=Qa b.out.2 g.out.1.2.2.2.2.2.1;have l0:=Qa b.out.2 g.out.1.2.2.2.2.2.2.1;have l1:=Qa b.out.2 g.out.1.2.2.2.2.2.2.2.1;have o0:=Qa b.out.2 g.out.1.2.2.2.2.2.2.2.2.1;have o1:=Qa b.out.2 g.out.1.2.2.2.2.2.2.2.2.2.1;have o2:=Qa b.out.2 g.out.1.2.2.2.2.2.2.2.2.2.2.1;have o3:=Qa b.out.2 g.out.1.2.2.2.2.2.2.2.2.2.2.2.1;have o4:=Qa b.out.2 g.out.1.2.2.2.2.2.2.2.2.2.2.2.2.1;have o5:=Qa b.out.2 g.out.1.2.2.2.2.2.2.2.2.2.2.2.2.2;have ax:=Qf b.out.2 (g.out.1.1) (g.out.2.1);have ay:=Qf b.out.2 (g.out.1.2.1) (g.out.2.2.1);have az:=Qf b.out.2 (g.out.1.2.2.1) (g.out.2.2.2.1);have b6:=Qf b.out.2 (g.out.1.2.2.2.1) (g.out.2.2.2.2.1);have b7:=Qf b.out.2 (g.out.1.2.2.2.2.1) (g.out.2.2.2.2.2.1);have b8:=Qf b.out.2 (g.out.1.2.2.2.2.2.1) (g.out.2.2.2.2.2.2.1);have b9:=Qf b.out.2 (g.out.1.2.2.2.2.2.2.2.2.1) (g.out.2.2.2.2.2.2.2.1);have ba:=Qf b.out.2 (g.out.1.2.2.2.2.2.2.2.2.2.1) (g.out.2.2.2.2.2.2.2.2.1);have bb:=Qf b.out.2 (g.out.1.2.2.2.2.2.2.2.2.2.2.1) (g.out.2.2.2.2.2.2.2.2.2.1);have bc:=Qf b.out.2 (g.out.1.2.2.2.2.2.2.2.2.2.2.2.1) (g.out.2.2.2.2.2.2.2.2.2.2.1);have be:=Qf b.out.2 (g.out.1.2.2.2.2.2.2.2.2.2.2.2.2.1) (g.out.2.2.2.2.2.2.2.2.2.2.2.1);have bf:=Qf b.out.2 (g.out.1.2.2.2.2.2.2.2.2.2.2.2.2.2) (g.out.2.2.2.2.2.2.2.2.2.2.2.2);have d0:At W2 w5.heap.size 0 (I A):=by rw [M];simp [go_sem]
 have d1:At W2 w5.heap.size 1 (I B):=by rw [M];simp [go_sem]
 have d2:At W2 w5.heap.size 2 (I C):=by rw [M];simp [go_sem]
 have d3:At W2 w5.heap.size 3 (I D):=by rw [M];simp [go_sem]
 have d4:At W2 w5.heap.size 4 (I E):=by rw [M];simp [go_sem]
 have d5:At W2 w5.heap.size 5 (I F):=by rw [M];simp [go_sem]
 clear M g H5;go_upto_region 3 with (go_at_call 64;(with_reducible refine (am.out _ b.out.1).mono ?_);rintro e w6 ⟨rfl,hb⟩;have bu:=Qa hb b0;have bv:=Qa hb b1;have bw:=Qa hb b2;have bz:=Qa hb b3;have c5:=Qa hb b4;have c6:=Qa hb b5;have c7:=Qa hb l0;have c8:=Qa hb l1;have c9:=Qa hb o0;have ca:=Qa hb o1;have cb:=Qa hb o2;have cc:=Qa hb o3;have cd:=Qa hb o4;have ce:=Qa hb o5;have bh:=Qf hb b0 ax;have bi:=Qf hb b1 ay;have bj:=Qf hb b2 az;have bk:=Qf hb b3 b6;have bm:=Qf hb b4 b7;have bn:=Qf hb b5 b8;have bo:=Qf hb o0 b9;have bp:=Qf hb o1 ba;have bq:=Qf hb o2 bb;have br:=Qf hb o3 bc;have bs:=Qf hb o4 be;have bt:=Qf hb o5 bf;have H6:=Hd (Qb b.out.1 hb);clear hb)
 refine Qj (fun i d=>?_)
 have bg:Bl w i:=by
  rw [d];with_reducible repeat (first | exact H6.out | refine Qk ?_ ?_)
  all_goals (exact Nr _)
 have ad:=Hd bg;clear bg;have O:At i w.heap.size 0 (I r0):=by rw [d];simp [go_sem, *]
 have p1:At i w.heap.size 1 (I r1):=by rw [d];simp [go_sem, *]
 have p2:At i w.heap.size 2 (I r2):=by rw [d];simp [go_sem, *]
 have p3:At i w.heap.size 3 (I r3):=by rw [d];simp [go_sem, *]
 have P:At i w.heap.size 4 (I r4):=by rw [d];simp [go_sem, *]
 have Q:At i w.heap.size 5 (I r5):=by rw [d];simp [go_sem, *]
 have ai:At i (w.heap.size+1) 0 (I f):=by rw [d];simp [go_sem, *]
 have aj:At i (w.heap.size+1) 1 (I c):=by rw [d];simp [go_sem, *]
 have p:At i (w.heap.size+1+1) 0 (I 0):=by rw [d];simp [go_sem, *]
 have q:At i (w.heap.size+1+1) 1 (I 0):=by rw [d];simp [go_sem, *]
 have r:At i (w.heap.size+1+1) 2 (I 0):=by rw [d];simp [go_sem, *]
 have s:At i (w.heap.size+1+1) 3 (I 0):=by rw [d];simp [go_sem, *]
 have t:At i (w.heap.size+1+1) 4 (I 0):=by rw [d];simp [go_sem, *]
 have u:At i (w.heap.size+1+1) 5 (I 0):=by rw [d];simp [go_sem, *]
 have K:i.frozen? ⟨w.heap.size,4,none⟩=false:=by rw [d];simp [go_sem, *]
 have L:i.frozen? ⟨w.heap.size,5,none⟩=false:=by rw [d];simp [go_sem, *]
 have x:i.frozen? ⟨w.heap.size+1+1,0,none⟩=false:=by rw [d];simp [go_sem, *]
 have y:i.frozen? ⟨w.heap.size+1+1,1,none⟩=false:=by rw [d];simp [go_sem, *]
 have z:i.frozen? ⟨w.heap.size+1+1,2,none⟩=false:=by rw [d];simp [go_sem, *]
 have G:i.frozen? ⟨w.heap.size+1+1,3,none⟩=false:=by rw [d];simp [go_sem, *]
 have H:i.frozen? ⟨w.heap.size+1+1,4,none⟩=false:=by rw [d];simp [go_sem, *]
 have J:i.frozen? ⟨w.heap.size+1+1,5,none⟩=false:=by rw [d];simp [go_sem, *]
 clear d bu bv bw bz c5 c6 c7 c8 c9 ca cb cc cd ce bh bi bj bk bm bn bo bp bq br bs bt b0 b1 b2 b3 b4 b5 l0 l1 o0 o1 o2 o3 o4 o5 ax ay az b6 b7 b8 b9 ba bb bc be bf d0 d1 d2 d3 d4 d5 H6 b;obtain ⟨cj,cl⟩:=hc;obtain ⟨cf,cg⟩:=h4;obtain ⟨ch,ci⟩:=h5;have hv:f=0∨f=1∨f=2∨f=3:=γ;clear hw ak am;have hx:=(idxP (2*c) 0 0 (2*c) c c c (-c) i);obtain ⟨ae,af,ag,ah⟩:=hx;rcases hv with rfl | rfl | rfl | rfl
 ·go_upto_region 4 with fail
  refine Qj (fun N h=>?_);have a:Bl i N:=by rw [h];exact Qc (Qd _)
  have HB4:=Hd (Qb ad.out a);have ap:=Qa a O;have aq:=Qa a p1;have ar:=Qa a p2;have au:=Qa a p3;have av:=Qa a P;have aw:=Qa a Q;have a6:=Qa a p;have a7:=Qa a q;have a8:=Qa a r;have aa:=Qa a s;have ab:=Qa a t;have ac:=Qa a u;have R:=Qf a p x;have T:=Qf a q y;have U:=Qf a r z;have W:=Qf a s G;have X:=Qf a t H;have Y:=Qf a u J;have Z:=Qf a P K;have a2:=Qf a Q L;have s0:At N i.heap.size 0 (I (2*c)):=by rw [h];simp [go_sem]
  have s1:At N i.heap.size 1 (I (0)):=by rw [h];simp [go_sem]
  have zs:=Bt O;clear h a O p1 p2 p3 P Q p q r s t u x y z G H J K L ai aj ae af ag ah;go_big_region
  go_wp2;refine bodyPost_ret (v:=.agg #[I r0,I r1,I r2,I r3,I (r4+(2*c)),I (r5+(0))]) (by simp [results,Tryz.results129,go_sem, *]) rfl ⟨by simp [stpX,stpY], ?_⟩;with_reducible repeat (first | exact HB4.out | refine Qk ?_ ?_ | refine Qe ?_)
  all_goals (dsimp only;omega)
 ·go_upto_region 4 with fail
  refine Qj (fun N h=>?_);have a:Bl i N:=by rw [h];exact Qc (Qd _)
  have HB4:=Hd (Qb ad.out a);have ap:=Qa a O;have aq:=Qa a p1;have ar:=Qa a p2;have au:=Qa a p3;have av:=Qa a P;have aw:=Qa a Q;have a6:=Qa a p;have a7:=Qa a q;have a8:=Qa a r;have aa:=Qa a s;have ab:=Qa a t;have ac:=Qa a u;have R:=Qf a p x;have T:=Qf a q y;have U:=Qf a r z;have W:=Qf a s G;have X:=Qf a t H;have Y:=Qf a u J;have Z:=Qf a P K;have a2:=Qf a Q L;have s0:At N i.heap.size 0 (I (0)):=by rw [h];simp [go_sem]
  have s1:At N i.heap.size 1 (I (2*c)):=by rw [h];simp [go_sem]
  have zs:=Bt O;clear h a O p1 p2 p3 P Q p q r s t u x y z G H J K L ai aj ae af ag ah;go_big_region
  go_wp2;refine bodyPost_ret (v:=.agg #[I r0,I r1,I r2,I r3,I (r4+(0)),I (r5+(2*c))]) (by simp [results,Tryz.results129,go_sem, *]) rfl ⟨by simp [stpX,stpY], ?_⟩;with_reducible repeat (first | exact HB4.out | refine Qk ?_ ?_ | refine Qe ?_)
  all_goals (dsimp only;omega)
 ·go_upto_region 4 with fail
  refine Qj (fun N h=>?_);have a:Bl i N:=by rw [h];exact Qc (Qd _)
  have HB4:=Hd (Qb ad.out a);have ap:=Qa a O;have aq:=Qa a p1;have ar:=Qa a p2;have au:=Qa a p3;have av:=Qa a P;have aw:=Qa a Q;have a6:=Qa a p;have a7:=Qa a q;have a8:=Qa a r;have aa:=Qa a s;have ab:=Qa a t;have ac:=Qa a u;have R:=Qf a p x;have T:=Qf a q y;have U:=Qf a r z;have W:=Qf a s G;have X:=Qf a t H;have Y:=Qf a u J;have Z:=Qf a P K;have a2:=Qf a Q L;have s0:At N i.heap.size 0 (I (c)):=by rw [h];simp [go_sem]
  have s1:At N i.heap.size 1 (I (c)):=by rw [h];simp [go_sem]
  have zs:=Bt O;clear h a O p1 p2 p3 P Q p q r s t u x y z G H J K L ai aj ae af ag ah;go_big_region
  go_wp2;refine bodyPost_ret (v:=.agg #[I r0,I r1,I r2,I r3,I (r4+(c)),I (r5+(c))]) (by simp [results,Tryz.results129,go_sem, *]) rfl ⟨by simp [stpX,stpY], ?_⟩;with_reducible repeat (first | exact HB4.out | refine Qk ?_ ?_ | refine Qe ?_)
  all_goals (dsimp only;omega)
 ·go_upto_region 4 with fail
  refine Qj (fun N h=>?_);have a:Bl i N:=by rw [h];exact Qc (Qd _)
  have HB4:=Hd (Qb ad.out a);have ap:=Qa a O;have aq:=Qa a p1;have ar:=Qa a p2;have au:=Qa a p3;have av:=Qa a P;have aw:=Qa a Q;have a6:=Qa a p;have a7:=Qa a q;have a8:=Qa a r;have aa:=Qa a s;have ab:=Qa a t;have ac:=Qa a u;have R:=Qf a p x;have T:=Qf a q y;have U:=Qf a r z;have W:=Qf a s G;have X:=Qf a t H;have Y:=Qf a u J;have Z:=Qf a P K;have a2:=Qf a Q L;have s0:At N i.heap.size 0 (I (c)):=by rw [h];simp [go_sem]
  have s1:At N i.heap.size 1 (I (-c)):=by rw [h];simp [go_sem]
  have zs:=Bt O;clear h a O p1 p2 p3 P Q p q r s t u x y z G H J K L ai aj ae af ag ah;go_big_region
  go_wp2;refine bodyPost_ret (v:=.agg #[I r0,I r1,I r2,I r3,I (r4+(c)),I (r5+(-c))]) (by simp [results,Tryz.results129,go_sem, *]) rfl ⟨by simp [stpX,stpY], ?_⟩;with_reducible repeat (first | exact HB4.out | refine Qk ?_ ?_ | refine Qe ?_)
  all_goals (dsimp only;omega)
theorem mirrored_any (t a k pl K sd Q P N O L:Value) (A z p n:Nat) (l c:Int) (mw:Nat→Bool) (M R:Nat→M6) (w:World) (h0:0<n) (hn:n≤300) (hY:YRow w p n mw)
  (B:∀ V:World,Bl w V→Cl 66 #[.slice (Az A) n z] V fun e w'=>∃ g' c',e=.returned (.slice (Az g') n c')∧MRow w' g' n M∧V.heap.size≤g'∧Bl V w')
  (C:∀ (V:World) (i:Nat),Bl w V→i<n→mw i=true→Rt 129 #[.agg #[I (M i).1,I (M i).2.1,I (M i).2.2.1,I (M i).2.2.2.1,I (M i).2.2.2.2.1,I (M i).2.2.2.2.2],.agg #[I l,I c]] V (.agg #[I (R i).1,I (R i).2.1,I (R i).2.2.1,I (R i).2.2.2.1,I (R i).2.2.2.2.1,I (R i).2.2.2.2.2])) :
  Cl 81 #[.agg #[t,a,k,.slice (Az A) n z,pl,K,I l,I c,sd,Q,P,N,O,L,.slice (Az p) n n]] w fun e w'=>∃ g' c',e=.returned (.slice (Az g') n c')∧MRow w' g' n (fun i=>if mw i then R i else M i)∧w.heap.size≤g'∧Bl w w':=by
 have U:=Hd B;have s:=Hd C;have HY:=Hd hY;have G:Hid ((w.alloc (.cells #[t,a,k,.slice (Az A) n z,pl,K,I l,I c,sd,Q,P,N,O,L,.slice (Az p) n n] 105)).cell? ⟨w.heap.size,6,none⟩=some (I l)∧(w.alloc (.cells #[t,a,k,.slice (Az A) n z,pl,K,I l,I c,sd,Q,P,N,O,L,.slice (Az p) n n] 105)).cell? ⟨w.heap.size,7,none⟩=some (I c)∧(w.alloc (.cells #[t,a,k,.slice (Az A) n z,pl,K,I l,I c,sd,Q,P,N,O,L,.slice (Az p) n n] 105)).cell? ⟨w.heap.size,14,none⟩=some (.slice (Az p) n n)):=⟨ζ,ζ,ζ⟩;clear B C hY;go_enter Tryz.func81,Tryz.ntmps81;go_upto_region 2 with (go_at_call 66;refine (U.out _ β1).mono ?_;rintro e w5 ⟨g,Z,rfl,D,hg,hb⟩;have F:Hid (MRow w5 g n M∧w.heap.size+1≤g∧Bl w w5):=⟨D,by simpa using hg,Qb β1 hb⟩;have k6:=Qa hb G.out.1;have k7:=Qa hb G.out.2.1;have a6:=Qa hb G.out.2.2;clear hb D hg)
 have Y:=H2 k6 k7;clear G k6 k7;go_wp2;go_loopg [4,5,13] n (fun gk s4 s5 a7 T=>∃ i:Nat,i≤n∧gk=n - i∧a7=I (i:Int)∧MRow T g n (fun q=>if decide (q<i) && mw q then R q else M q)∧At T w.heap.size 6 (I l)∧At T w.heap.size 7 (I c)∧Bl w T)
 case atStart=>exact ⟨0,γ,rfl,rfl,by simpa using F.out.1,Y.out.1,Y.out.2,F.out.2.2⟩
 case round =>
  clear a6 Y;obtain ⟨i,hi,rfl,rfl,D,x,y,hB⟩:=hrel;have f:=H4 D x y hB;clear D x y hB;by_cases h1:i<n
  ·have i1:(i:Int)<(n:Int):=γ;have i0:(0:Int)≤(i:Int):=γ;have y0:=((HY.out.kept f.out.2.2.2) i h1).1
   cases hmx:mw i with
   | false =>
    rw [hmx] at y0
    have v:Hid (MRow wr g n (fun q=>if decide (q<i+1) && mw q then R q else M q)):=by
     have e:(fun q=>if decide (q<i+1) && mw q then R q else M q)=(fun q=>if decide (q<i) && mw q then R q else M q):=funext fun q=>by
      by_cases e:q=i
      ·subst e;simp [hmx]
      ·have:(decide (q<i+1))=decide (q<i):=decide_eq_decide.mpr γ;rw [this]
     rw [e];exact f.out.1
    clear hmx;go_wp2;go_roundg (n - (i+1))
    case measure=>omega
    case rel=>exact ⟨i+1,γ,rfl,σ,v.out,f.out.2.1,f.out.2.2.1,f.out.2.2.2⟩
   | true =>
    rw [hmx] at y0;have hm:=f.out.1 i h1;simp only [Nat.lt_irrefl,decide_false,Bool.false_and,Bool.false_eq_true,if_false] at hm;obtain ⟨⟨a0,a1,J,a3,a4,a5⟩,f0,f1,f2,f3,f4,f5⟩:=hm;have W:Hid (∀ V:World,Bl w V→Rt 129 #[.agg #[I (M i).1,I (M i).2.1,I (M i).2.2.1,I (M i).2.2.2.1,I (M i).2.2.2.2.1,I (M i).2.2.2.2.2],.agg #[I l,I c]] V (.agg #[I (R i).1,I (R i).2.1,I (R i).2.2.1,I (R i).2.2.2.1,I (R i).2.2.2.2.1,I (R i).2.2.2.2.2])):=fun V o=>s.out V i o h1 hmx
    have v:Hid (∀ V:World,MRow V g n (fun q=>if decide (q<i) && mw q then R q else M q)→MRow (set6 V g i (R i)) g n (fun q=>if decide (q<i+1) && mw q then R q else M q)):=fun V o=>by
     have h:=o.set6 h1 (R i)
     have e:(fun q=>if decide (q<i+1) && mw q then R q else M q)=(fun q=>if q=i then R i else (if decide (q<i) && mw q then R q else M q)):=funext fun q=>by
      by_cases e:q=i
      ·subst e;simp [hmx]
      ·have:(decide (q<i+1))=decide (q<i):=decide_eq_decide.mpr γ;rw [this,if_neg e]
     rw [e];exact h
    have x:=f.out.2.1;have y:=f.out.2.2.1;have zg:w.heap.size<g:=by have:=F.out.2.1;omega
    clear hmx s;generalize M i=m at a0 a1 J a3 a4 a5 W;generalize R i=r at W v;go_upto_region 6 with fail
    have H:Hid (∀ V:World,Bl wr V→(fun w'=>At w' g (i*6) (I m.1)∧At w' g (i*6+1) (I m.2.1)∧At w' g (i*6+2) (I m.2.2.1)∧At w' g (i*6+3) (I m.2.2.2.1)∧At w' g (i*6+4) (I m.2.2.2.2.1)∧At w' g (i*6+5) (I m.2.2.2.2.2)∧At w' w.heap.size 6 (I l)∧At w' w.heap.size 7 (I c)) V):=fun V o=>⟨Qa o a0,Qa o a1,Qa o J,Qa o a3,Qa o a4,Qa o a5,Qa o x,Qa o y⟩;refine Qz (S:=fun w'=>At w' g (i*6) (I m.1)∧At w' g (i*6+1) (I m.2.1)∧At w' g (i*6+2) (I m.2.2.1)∧At w' g (i*6+3) (I m.2.2.2.1)∧At w' g (i*6+4) (I m.2.2.2.2.1)∧At w' g (i*6+5) (I m.2.2.2.2.2)∧At w' w.heap.size 6 (I l)∧At w' w.heap.size 7 (I c)) (late:=fun j=>decide (j=11)) μ ?_;have b:=H.out _ (Qe (Qd wr));refine Lk 0 (.slice (Az g) n Z) b ?_;refine Lk 1 (I (i:Int)) b ?_;refine Lk 2 (.slice (Az g) n Z) b ?_;refine Lk 3 (I (i:Int)) b ?_;refine Lk 4 (.pointer (Ad g (i*6))) b ?_;refine Lk 5 (.agg #[I (m).1,I (m).2.1,I (m).2.2.1,I (m).2.2.2.1,I (m).2.2.2.2.1,I (m).2.2.2.2.2]) b ?_;refine Lk 6 (.pointer (Ad w.heap.size 6)) b ?_;refine Lk 7 (.pointer (Ad w.heap.size 6)) b ?_;refine Lk 8 (.agg #[I l,I c]) b ?_;refine Lt.one (i:=9) μ rfl rfl ?_;refine Jc 129 #[.agg #[I (m).1,I (m).2.1,I (m).2.2.1,I (m).2.2.2.1,I (m).2.2.2.2.1,I (m).2.2.2.2.2],.agg #[I l,I c]] μ (W.out _ (Qe f.out.2.2.2)) ?_;rintro e w1 ⟨rfl,E⟩;have d:Hid (Bl wr w1):=Qb (Qe (Qd _)) E;clear E;refine ⟨_,rfl,fun _=>H.out _ d.out, ?_⟩;try simp only [Ap]
    replace b:=H.out _ d.out;refine Lk 10 (.pointer (Ad g (i*6))) b ?_;have HZ:Hid (MRow (set6 w1 g i r) g n (fun q=>if decide (q<i+1) && mw q then R q else M q)):=v.out _ (f.out.1.kept d.out);obtain ⟨b0,b1,b2,b3,b4,b5,b6,b7⟩:=b;have g0:=Qf d.out a0 f0;have g1:=Qf d.out a1 f1;have g2:=Qf d.out J f2;have g3:=Qf d.out a3 f3;have g4:=Qf d.out a4 f4;have g5:=Qf d.out a5 f5;have X:Hid (Bl w (set6 w1 g i r)):=(Qb f.out.2.2.2 d.out).grown (Jw w1 g i r) (Qb f.out.2.2.2 d.out).size (fun k h=>by cases h;omega);have u:Hid ((set6 w1 g i r).cell? ⟨w.heap.size,6,none⟩=some (I l)∧(set6 w1 g i r).cell? ⟨w.heap.size,7,none⟩=some (I c)):=⟨(Jw w1 g i r).cell b6 ψ,(Jw w1 g i r).cell b7 ψ⟩;clear H v a0 a1 J a3 a4 a5 f0 f1 f2 f3 f4 f5 x y b6 b7;refine Lt.one (i:=11) μ rfl rfl ?_;go_simp;refine Lt.done μ ?_;go_wp2;go_roundg (n - (i+1))
    case measure=>omega
    case rel=>exact ⟨i+1,γ,rfl,σ,HZ.out,u.out.1,u.out.2,X.out⟩
  ·have i1:¬ (i:Int)<(n:Int):=γ;obtain rfl:i=n:=γ;go_wp2;go_ret;refine ⟨g,⟨Z,rfl⟩,fun q hq=>?_,by have:=F.out.2.1;omega,f.out.2.2.2⟩;have:=f.out.1 q hq;simpa [hq] using this
end Go.Proofs.YtbjmnlefkbhbdaaGreatDoor
