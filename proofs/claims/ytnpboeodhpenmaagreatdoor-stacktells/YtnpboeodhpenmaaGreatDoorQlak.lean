/- A part of it. -/
import Derived.Test.YtnpboeodhpenmaaGreatDoorQlaj
import Derived.Test.YtnpboeodhpenmaaGreatDoorQlai
set_option maxRecDepth 100000
set_option maxHeartbeats 40000000
namespace Go.Proofs.YtnpboeodhpenmaaGreatDoor
open Go.RowKit Go.ChangeMaps
variable {w w':World} {L:List T3} {b f g i k n:Nat} {M:Nat→M6}
theorem gix_cnt (l:List T3) (p q r s:Int):∀ n,n≤l.length→(gix (l.take n) (p,q,r,s)).length=cnt (l.take n) p q r s
 | 0,_=>by simp [gix,cnt]
 | n+1,h=>by
  have a:=gix_cnt l p q r s n γ;rw [cnt_next γ,List.take_succ_eq_append_getElem γ,gix_snoc,List.length_append,a];congr 1
  unfold hasT;split <;> rfl
theorem gix_count (l:List T3) (p q r s:Int):(gix l (p,q,r,s)).length=cnt l p q r s:=by
 have:=gix_cnt l p q r s l.length (Nr _);rwa [List.take_length] at this
theorem inner_any (w:World) (e b g:Nat) (c:Option Addr) (L:List T3) (p q r s:Int) (f:PA w c b L) :
  Rt 251 #[.agg #[.slice c L.length e,.map (some b),.map (some g)],.agg #[I p,I q,I r,I s]] w (.bool (decide (cnt L p q r s=2))):=by
 obtain ⟨a,d,_,h⟩:=f.2 (p,q,r,s);have j:(Instr.lookup 95 (.map (some b)) (.agg #[I p,I q,I r,I s]) false).run Tryz.prog ((w.alloc (.cells #[.slice c L.length e,.map (some b),.map (some g)] 98)).alloc (.cells #[I p,I q,I r,I s] 42))=.ok (.slice a (gix L (p,q,r,s)).length d) ((w.alloc (.cells #[.slice c L.length e,.map (some b),.map (some g)] 98)).alloc (.cells #[I p,I q,I r,I s] 42)):=h _ β2;clear h;have i:=Hd (gix_count L p q r s);go_enter Tryz.func251,Tryz.ntmps251;go_wp2;go_ret;refine ⟨Qv ?_,Qb β1⟩;rw [i.out,Bool.eq_iff_iff];simp;omega
theorem Yy (w:World) (V U W n M:Nat) (K cb:Option Addr) (L:List T3) (a:List Int) (P:PA w K U L) (hk:Row w cb a) (hn:a.length=n*5) (a7:n≤3518437208883) :
  Cl 173 #[.agg #[.slice K L.length V,.map (some U),.map (some W)],.slice cb n M] w fun e w'=>∃ H:Bool,e=.returned (.bool H)∧(H=true↔∀ i,i<n→CrOk L a i)∧Bl w w':=by
 have x:=Hd (Xu hk hn);have C:Hid (∀ (p q r s:Int) (E:World),Bl w E→Rt 251 #[.agg #[.slice K L.length V,.map (some U),.map (some W)],.agg #[I p,I q,I r,I s]] E (.bool (decide (cnt L p q r s=2)))):=fun p q r s E hb=>inner_any E V U W K L p q r s (P.kept hb);clear P hk hn;go_enter Tryz.func173,Tryz.ntmps173;go_wp2;go_loopg [9] n (fun gk s9 E=>∃ i:Nat,i≤n∧gk=n - i∧s9=I (i:Int)∧(∀ j,j<i→CrOk L a j)∧(At E w.heap.size 0 (.slice K L.length V)∧At E w.heap.size 1 (.map (some U))∧At E w.heap.size 2 (.map (some W)))∧Bl w E)
 case atStart=>exact ⟨0,γ,rfl,rfl,fun j h=>by omega,δ,Qb (Qe _)⟩
 case round =>
  obtain ⟨i,hi,rfl,rfl,hp,O,hB⟩:=hrel;have J:=Hd hp;have l:=Hd O;have o:=Hd hB;obtain ⟨s0,s1,s2⟩:=O;have a8:=Bt s0;clear hp hB;by_cases h1:i<n
  ·have i1:(i:Int)<(n:Int):=γ;have i0:(0:Int)≤(i:Int):=γ;obtain ⟨H,bo,rfl,c0,c1,c2,c3,c4⟩:=(x.out.kept o.out) i h1;have X:=Bt c0;by_cases k1:(ck a i 4)=1
   ·have R:((ck a i 4) != 1)=false:=by simpa using k1
    have F:=Hd k1;clear k1
    cases g1:decide (cnt L (ck a i 0) (ck a i 1) (ck a i 2) (ck a i 3)=2)
    ·go_wp2_with (go_at_call 251;refine (C.out _ _ _ _ _ (Qb o.out)).mono ?_;rintro e5 k ⟨rfl,b⟩;have f:Bl wr k:=Qc β1 b;have d:=Hd f;have t0:At k wr.heap.size 0 (I (ck a i 0)):=Qa b δ;have t1:At k wr.heap.size 1 (I (ck a i 1)):=Qa b δ;have t2:At k wr.heap.size 2 (I (ck a i 2)):=Qa b δ;have t3:At k wr.heap.size 3 (I (ck a i 3)):=Qa b δ;have z5:=Bt t0;have z6:H<k.heap.size:=Nl X f.size;have u:=Hd (x.out.kept (Qc o.out f));clear b f)
     go_ret;first | exact ⟨false,rfl,⟨fun h=>Bool.noConfusion h,fun h=>absurd (h i h1).2.2 (by simpa using g1)⟩,Qc o.out d.out⟩ | exact Or.inl ⟨rfl,fun h=>absurd (h i h1).2.2 (by simpa using g1),Qc o.out d.out⟩
    ·have z:Hid (cnt L (ck a i 0) (ck a i 1) (ck a i 2) (ck a i 3)=2):=by show _=_;simpa using g1
     go_wp2_with (go_at_call 251;refine (C.out _ _ _ _ _ (Qb o.out)).mono ?_;rintro e5 k ⟨rfl,b⟩;have f:Bl wr k:=Qc β1 b;have d:=Hd f;have t0:At k wr.heap.size 0 (I (ck a i 0)):=Qa b δ;have t1:At k wr.heap.size 1 (I (ck a i 1)):=Qa b δ;have t2:At k wr.heap.size 2 (I (ck a i 2)):=Qa b δ;have t3:At k wr.heap.size 3 (I (ck a i 3)):=Qa b δ;have z5:=Bt t0;have z6:H<k.heap.size:=Nl X f.size;have u:=Hd (x.out.kept (Qc o.out f));clear b f)
     clear x;obtain ⟨kc,kn⟩:=kcn k;by_cases hi0:i=0
     ·have q0:¬ (0:Int)<(i:Int):=γ;have T:¬ 0<i:=γ;have G:=Hd hi0;clear hi0;refine wk ?_;repeat (go_big_quiet_step ((go_at_call 43;exact Qf (Jo _ _ _ _ _ _ _ _ _))))
      refine wpQuiet_nil ?_;intro B t;obtain ⟨v,c⟩:=t;have hq:Bl k B:=c ▸ v.h;have y:=Hd (Qc (Qc o.out d.out) hq);have g:=Hd (Qc d.out hq);clear c v hq;go_wp2;go_roundg (n - (i+1))
      case measure=>omega
      case rel =>
       refine ⟨i+1,γ,rfl,σ,fun j Q=>?_,⟨Qa g.out l.out.1,Qa g.out l.out.2.1,Qa g.out l.out.2.2⟩,y.out⟩;by_cases ej:j=i
       ·subst ej;exact ⟨fun h=>absurd h (by have:=G.out;omega),Or.inl F.out,z.out⟩
       ·exact J.out j γ
     ·have q0:(0:Int)<(i:Int):=γ;have T:0<i:=γ;obtain ⟨m,hm⟩:∃ m,i=m+1:=⟨i - 1,γ⟩;have a2:(i:Int) - 1=(m:Int):=γ;have m1:(m:Int)<(n:Int):=γ;have m0:(0:Int)≤(m:Int):=γ;obtain ⟨Y,Z,N,p0,p1,p2,p3,_⟩:=u.out m γ;simp only [Option.some.injEq,Addr.mk.injEq,and_true] at N;obtain ⟨rfl,rfl⟩:=N;have A:Hid (i - 1=m):=by show i - 1=m;omega
      clear hi0 hm
      cases hless:lessE (ck a m 0) (ck a m 1) (ck a m 2) (ck a m 3) (ck a i 0) (ck a i 1) (ck a i 2) (ck a i 3)
      ·have D:Hid (¬ CrOk L a i):=fun h=>by
        have:=h.1 T;rw [A.out,hless] at this;exact Bool.noConfusion this
       have hc:(0:Int)≤cmpE (ck a m 0) (ck a m 1) (ck a m 2) (ck a m 3) (ck a i 0) (ck a i 1) (ck a i 2) (ck a i 3):=by
        rcases Int.lt_or_le (cmpE (ck a m 0) (ck a m 1) (ck a m 2) (ck a m 3) (ck a i 0) (ck a i 1) (ck a i 2) (ck a i 3)) 0 with h | h
        ·rw [Vg,hless] at h;exact Bool.noConfusion h
        ·exact h
       clear hless;refine wk ?_;repeat (go_big_quiet_step ((go_at_call 43;exact Qf (Jo _ _ _ _ _ _ _ _ _))))
       refine wpQuiet_nil ?_;intro B t;obtain ⟨v,c⟩:=t;have hq:Bl k B:=c ▸ v.h;have y:=Hd (Qc (Qc o.out d.out) hq);have g:=Hd (Qc d.out hq);clear c v hq;go_wp2;go_ret;first | exact ⟨false,rfl,⟨fun h=>Bool.noConfusion h,fun h=>absurd (h i h1) D.out⟩,y.out⟩ | exact Or.inl ⟨rfl,fun h=>absurd (h i h1) D.out,y.out⟩
      ·have D:Hid (0<i→lessE (ck a (i - 1) 0) (ck a (i - 1) 1) (ck a (i - 1) 2) (ck a (i - 1) 3) (ck a i 0) (ck a i 1) (ck a i 2) (ck a i 3)=true):=fun _=>by rw [A.out];exact hless
       have hc:¬ (0:Int)≤cmpE (ck a m 0) (ck a m 1) (ck a m 2) (ck a m 3) (ck a i 0) (ck a i 1) (ck a i 2) (ck a i 3):=by
        have:=(Vg (ck a m 0) (ck a m 1) (ck a m 2) (ck a m 3) (ck a i 0) (ck a i 1) (ck a i 2) (ck a i 3)).2 hless;omega
       clear hless;refine wk ?_;repeat (go_big_quiet_step ((go_at_call 43;exact Qf (Jo _ _ _ _ _ _ _ _ _))))
       refine wpQuiet_nil ?_;intro B t;obtain ⟨v,c⟩:=t;have hq:Bl k B:=c ▸ v.h;have y:=Hd (Qc (Qc o.out d.out) hq);have g:=Hd (Qc d.out hq);clear c v hq;go_wp2;go_roundg (n - (i+1))
       case measure=>omega
       case rel =>
        refine ⟨i+1,γ,rfl,σ,fun j Q=>?_,⟨Qa g.out l.out.1,Qa g.out l.out.2.1,Qa g.out l.out.2.2⟩,y.out⟩;by_cases ej:j=i
        ·subst ej;exact ⟨D.out,Or.inl F.out,z.out⟩
        ·exact J.out j γ
   ·by_cases k2:(ck a i 4)=2
    ·have R:((ck a i 4) != 1)=true:=by simpa using k1
     have a6:((ck a i 4) != 2)=false:=by simpa using k2
     have F:=Hd k2;clear k1 k2
     cases g1:decide (cnt L (ck a i 0) (ck a i 1) (ck a i 2) (ck a i 3)=2)
     ·go_wp2_with (go_at_call 251;refine (C.out _ _ _ _ _ (Qb o.out)).mono ?_;rintro e5 k ⟨rfl,b⟩;have f:Bl wr k:=Qc β1 b;have d:=Hd f;have t0:At k wr.heap.size 0 (I (ck a i 0)):=Qa b δ;have t1:At k wr.heap.size 1 (I (ck a i 1)):=Qa b δ;have t2:At k wr.heap.size 2 (I (ck a i 2)):=Qa b δ;have t3:At k wr.heap.size 3 (I (ck a i 3)):=Qa b δ;have z5:=Bt t0;have z6:H<k.heap.size:=Nl X f.size;have u:=Hd (x.out.kept (Qc o.out f));clear b f)
      go_ret;first | exact ⟨false,rfl,⟨fun h=>Bool.noConfusion h,fun h=>absurd (h i h1).2.2 (by simpa using g1)⟩,Qc o.out d.out⟩ | exact Or.inl ⟨rfl,fun h=>absurd (h i h1).2.2 (by simpa using g1),Qc o.out d.out⟩
     ·have z:Hid (cnt L (ck a i 0) (ck a i 1) (ck a i 2) (ck a i 3)=2):=by show _=_;simpa using g1
      go_wp2_with (go_at_call 251;refine (C.out _ _ _ _ _ (Qb o.out)).mono ?_;rintro e5 k ⟨rfl,b⟩;have f:Bl wr k:=Qc β1 b;have d:=Hd f;have t0:At k wr.heap.size 0 (I (ck a i 0)):=Qa b δ;have t1:At k wr.heap.size 1 (I (ck a i 1)):=Qa b δ;have t2:At k wr.heap.size 2 (I (ck a i 2)):=Qa b δ;have t3:At k wr.heap.size 3 (I (ck a i 3)):=Qa b δ;have z5:=Bt t0;have z6:H<k.heap.size:=Nl X f.size;have u:=Hd (x.out.kept (Qc o.out f));clear b f)
      clear x;obtain ⟨kc,kn⟩:=kcn k;by_cases hi0:i=0
      ·have q0:¬ (0:Int)<(i:Int):=γ;have T:¬ 0<i:=γ;have G:=Hd hi0;clear hi0;refine wk ?_;repeat (go_big_quiet_step ((go_at_call 43;exact Qf (Jo _ _ _ _ _ _ _ _ _))))
       refine wpQuiet_nil ?_;intro B t;obtain ⟨v,c⟩:=t;have hq:Bl k B:=c ▸ v.h;have y:=Hd (Qc (Qc o.out d.out) hq);have g:=Hd (Qc d.out hq);clear c v hq;go_wp2;go_roundg (n - (i+1))
       case measure=>omega
       case rel =>
        refine ⟨i+1,γ,rfl,σ,fun j Q=>?_,⟨Qa g.out l.out.1,Qa g.out l.out.2.1,Qa g.out l.out.2.2⟩,y.out⟩;by_cases ej:j=i
        ·subst ej;exact ⟨fun h=>absurd h (by have:=G.out;omega),Or.inr F.out,z.out⟩
        ·exact J.out j γ
      ·have q0:(0:Int)<(i:Int):=γ;have T:0<i:=γ;obtain ⟨m,hm⟩:∃ m,i=m+1:=⟨i - 1,γ⟩;have a2:(i:Int) - 1=(m:Int):=γ;have m1:(m:Int)<(n:Int):=γ;have m0:(0:Int)≤(m:Int):=γ;obtain ⟨Y,Z,N,p0,p1,p2,p3,_⟩:=u.out m γ;simp only [Option.some.injEq,Addr.mk.injEq,and_true] at N;obtain ⟨rfl,rfl⟩:=N;have A:Hid (i - 1=m):=by show i - 1=m;omega
       clear hi0 hm
       cases hless:lessE (ck a m 0) (ck a m 1) (ck a m 2) (ck a m 3) (ck a i 0) (ck a i 1) (ck a i 2) (ck a i 3)
       ·have D:Hid (¬ CrOk L a i):=fun h=>by
         have:=h.1 T;rw [A.out,hless] at this;exact Bool.noConfusion this
        have hc:(0:Int)≤cmpE (ck a m 0) (ck a m 1) (ck a m 2) (ck a m 3) (ck a i 0) (ck a i 1) (ck a i 2) (ck a i 3):=by
         rcases Int.lt_or_le (cmpE (ck a m 0) (ck a m 1) (ck a m 2) (ck a m 3) (ck a i 0) (ck a i 1) (ck a i 2) (ck a i 3)) 0 with h | h
         ·rw [Vg,hless] at h;exact Bool.noConfusion h
         ·exact h
        clear hless;refine wk ?_;repeat (go_big_quiet_step ((go_at_call 43;exact Qf (Jo _ _ _ _ _ _ _ _ _))))
        refine wpQuiet_nil ?_;intro B t;obtain ⟨v,c⟩:=t;have hq:Bl k B:=c ▸ v.h;have y:=Hd (Qc (Qc o.out d.out) hq);have g:=Hd (Qc d.out hq);clear c v hq;go_wp2;go_ret;first | exact ⟨false,rfl,⟨fun h=>Bool.noConfusion h,fun h=>absurd (h i h1) D.out⟩,y.out⟩ | exact Or.inl ⟨rfl,fun h=>absurd (h i h1) D.out,y.out⟩
       ·have D:Hid (0<i→lessE (ck a (i - 1) 0) (ck a (i - 1) 1) (ck a (i - 1) 2) (ck a (i - 1) 3) (ck a i 0) (ck a i 1) (ck a i 2) (ck a i 3)=true):=fun _=>by rw [A.out];exact hless
        have hc:¬ (0:Int)≤cmpE (ck a m 0) (ck a m 1) (ck a m 2) (ck a m 3) (ck a i 0) (ck a i 1) (ck a i 2) (ck a i 3):=by
         have:=(Vg (ck a m 0) (ck a m 1) (ck a m 2) (ck a m 3) (ck a i 0) (ck a i 1) (ck a i 2) (ck a i 3)).2 hless;omega
        clear hless;refine wk ?_;repeat (go_big_quiet_step ((go_at_call 43;exact Qf (Jo _ _ _ _ _ _ _ _ _))))
        refine wpQuiet_nil ?_;intro B t;obtain ⟨v,c⟩:=t;have hq:Bl k B:=c ▸ v.h;have y:=Hd (Qc (Qc o.out d.out) hq);have g:=Hd (Qc d.out hq);clear c v hq;go_wp2;go_roundg (n - (i+1))
        case measure=>omega
        case rel =>
         refine ⟨i+1,γ,rfl,σ,fun j Q=>?_,⟨Qa g.out l.out.1,Qa g.out l.out.2.1,Qa g.out l.out.2.2⟩,y.out⟩;by_cases ej:j=i
         ·subst ej;exact ⟨D.out,Or.inr F.out,z.out⟩
         ·exact J.out j γ
    ·have R:((ck a i 4) != 1)=true:=by simpa using k1
     have a6:((ck a i 4) != 2)=true:=by simpa using k2
     have F:Hid (¬ ((ck a i 4)=1∨(ck a i 4)=2)):=by rintro (h | h) <;> contradiction
     clear k1 k2;go_wp2;go_ret;first | exact ⟨false,rfl,⟨fun h=>Bool.noConfusion h,fun h=>absurd (h i h1).2.1 F.out⟩,Qb o.out⟩ | exact Or.inl ⟨rfl,fun h=>absurd (h i h1).2.1 F.out,Qb o.out⟩
  ·have i1:¬ (i:Int)<(n:Int):=γ;go_wp2;go_ret;first | exact ⟨true,rfl,⟨fun _ j Q=>J.out j γ,fun _=>rfl⟩,o.out⟩ | exact Or.inr ⟨rfl,fun j Q=>J.out j γ,o.out⟩
def PK (w0 w:World) (base ra rk:Nat) (vt:Value) (L:List T3) (G:E4→List Int) (kd:E4→Option Value):Prop :=
 w.ownsRow base 51 3 vt L.length (flatV L)∧GP w base ra vt G∧(∃ ls c,EM w rk ls c∧Good ls c∧∀ e,lk ls e=kd e)∧(w0.heap.size≤ra∧ra<base∧w0.heap.size≤rk∧rk<base∧ra≠rk∧base≤w.heap.size∧w0.heap.size≤base)∧Bl w0 w
theorem PP.pk {g:World} {base l d:Nat} {f:Value} {G:E4→List Int} (h:PP g w base l b d f L G):PK g w base b d f L G (fun _=>none):=by
 obtain ⟨h1,h2,h3,⟨c,h4,a⟩,⟨a1,m,a3,a4,a5,i,j,k⟩,h6⟩:=h;exact ⟨h2,h3,⟨[],c,h4,a,fun e=>rfl⟩,⟨a3,a4,a5,i,j,k,γ⟩,h6⟩
theorem PK.kept {i:World} {base e:Nat} {g:Value} {G:E4→List Int} {kd:E4→Option Value} (h:PK i w base e f g L G kd) (a:Bl w w'):PK i w' base e f g L G kd:=by
 obtain ⟨h2,h3,⟨ls,c,h4,b,d⟩,⟨a1,j,a3,a4,a5,k,l⟩,h6⟩:=h;exact ⟨Qj h2 a,h3.kept a,⟨ls,c,h4.grown (Qy a) ξ,b,d⟩,⟨a1,j,a3,a4,a5,Nt k a.size,l⟩,Qc h6 a⟩
theorem PK.base {f e:World} {base c:Nat} {d:Value} {G:E4→List Int} {kd:E4→Option Value} (h:PK e w base b c d L G kd) (a:Bl f e):PK f w base b c d L G kd:=by
 obtain ⟨h2,h3,h4,⟨a1,g,a3,a4,a5,i,j⟩,h6⟩:=h;have:=a.size;exact ⟨h2,h3,h4,⟨γ,g,γ,a4,a5,i,γ⟩,Qc a h6⟩
theorem PK.pa {o:World} {base l:Nat} {j:Option Addr} {kd:E4→Option Value} (h:PK o w base k n (.slice j L.length l) L (gix L) kd):PA w j k L:=by
 obtain ⟨h2,⟨ls,c,b1,b2,b3,b4,q⟩,h4⟩:=h;refine ⟨?_,fun e=>?_⟩
 ·obtain ⟨a,d,e,hT⟩:=Xc h2;simp only [Value.slice.injEq] at e;(try simp only [At,I,Fn,Az,Ad]);rw [e.1]
  exact hT
 ·cases hl:lk ls e with
  | none =>
   refine ⟨none,0,by (try simp only [At,I,Fn,Az,Ad]);rw [b3 e hl];intro i hi;simp at hi,fun p f=>?_⟩;have:=lookup27 Tryz.underlying95 zero70 (b1.grown (Qy f) ξ) b2 e;(try simp only [At,I,Fn,Az,Ad] at this);rw [hl] at this
   (try simp only [At,I,Fn,Az,Ad]);rw [b3 e hl]
   exact this
  | some v =>
   obtain ⟨d1,d2,d3⟩:=b4 e v hl
   obtain ⟨b,off,d,hv,hr⟩:∃ b off d,v=.slice (some ⟨b,off,none⟩) (gix L e).length d∧Row w (some ⟨b,off,none⟩) (gix L e):=by
    rcases d1.2 with ⟨rfl,h0⟩ | ⟨g,d,m,rfl,_⟩
    ·exact absurd (List.length_eq_zero_iff.1 h0) d2
    ·refine ⟨g,0,d,rfl,fun i hi=>⟨g,0,rfl, ?_⟩⟩;have:=d1.cellAt i γ;(try simp only [At,I]);rw [Nat.zero_add,this]
     simp [hi]
   refine ⟨some ⟨b,off,none⟩,d,hr,fun p f=>?_⟩;have:=lookup27 Tryz.underlying95 zero70 (b1.grown (Qy f) ξ) b2 e;(try simp only [At,I,Fn,Az,Ad] at this);rw [hl,hv] at this
   exact this
theorem PK.grown {j:World} {base r:Nat} {p:Value} {G:E4→List Int} {kd:E4→Option Value} (h:PK j w base f i p L G kd) (hg:w.grownBy w' (some r)) (hr:j.heap.size≤r) (h1:r≠f) (h2:r≠i) (h3:r<base):PK j w' base f i p L G kd:=by
 obtain ⟨m,⟨ls,z,b1,b2,b3,b4,y⟩,⟨a,c,D,b,d⟩,⟨a1,t,a3,a4,a5,u,x⟩,o⟩:=h
 have l:∀ {v:Value} {n:Nat} {e:TypeId} {s:Nat} {q:List Value},w.ownsRow base e s v n q→v.ownBlock=none∨v.ownBlock≠some r:=fun {v n e s q} C=>by
  cases hu:v.ownBlock with
  | none=>exact Or.inl rfl
  | some g =>
   refine Or.inr (fun e1=>?_);have:=(C.lt g hu).1;simp at e1;omega
 refine ⟨m.kept hg (l m),⟨ls,z,b1.grown hg (fun e=>h1 (by simpa using e.symm)),b2,b3,fun e v A=>?_,y⟩,⟨a,c,D.grown hg (fun e=>h2 (by simpa using e.symm)),b,d⟩,⟨a1,t,a3,a4,a5,Nt u hg.size,x⟩,o.grown hg o.size (fun k B=>by simp at B;omega)⟩;obtain ⟨d1,d2,d3⟩:=b4 e v A;exact ⟨d1.kept hg (l d1),d2,d3⟩
theorem PK.update {u:World} {base r:Nat} {t:Value} {G:E4→List Int} {kd:E4→Option Value} (h:PK u w base r b t L G kd) (e:E4) (v:Value) :
  ∃ W',(Instr.mapUpdate 96 (.map (some b)) (ek e) v).run Tryz.prog w=.ok () W'∧w.grownBy W' (some b)∧PK u W' base r b t L G (fun j=>if j=e then some v else kd j):=by
 obtain ⟨o,⟨ls,C,b1,b2,b3,b4,B⟩,⟨H,c,p,f,i⟩,⟨a1,y,a3,a4,a5,z,A⟩,q⟩:=h;obtain ⟨a,l,r1,r2,r3,_⟩:=update27 Tryz.underlying96 p f e v;have d:=p;unfold EM at d;have hg:=Yf d (.map (a.map toE).toArray l)
 have m:∀ {v:Value} {n:Nat} {e:TypeId} {s:Nat} {x:List Value},w.ownsRow base e s v n x→v.ownBlock=none∨v.ownBlock≠some b:=fun {v n e s x} F=>by
  cases hu:v.ownBlock with
  | none=>exact Or.inl rfl
  | some g =>
   refine Or.inr (fun e1=>?_);have:=(F.lt g hu).1;simp at e1;omega
 refine ⟨_,r1,hg,o.kept hg (m o),⟨ls,C,b1.grown hg (fun e=>a5 (by simpa using e)),b2,b3,fun e v D=>?_,B⟩,⟨a,l,heap_setBlock_same d _,r2,fun j=>by rw [r3 j,i j]⟩,⟨a1,y,a3,a4,a5,Nt z hg.size,A⟩,q.grown hg q.size (fun k E=>by simp at E;omega)⟩;obtain ⟨d1,d2,d3⟩:=b4 e v D;exact ⟨d1.kept hg (m d1),d2,d3⟩
def kf (ks:List Int):Nat→Int×Int×Int×Int→Option Value
 | 0,_=>none
 | i+1,e=>if e=(ck ks i 0,ck ks i 1,ck ks i 2,ck ks i 3) then some (I (ck ks i 4)) else kf ks i e
theorem lay_nojoin (W H b off j n d:Nat) (y:Option Addr) (zs O:List Int) (w:World) (hr:Row w (Ad b off) zs) (K:1≤W∧W≤8) (X:1≤H∧H≤8) (M:zs.length=W*H) (N:maskB zs=true) (hk:Row w y O) (hn:O.length=n*5) (a2:n≤3518437208883) (hs:Steps w) (hJ:¬ Joined (ty zs W H)) :
  Rt 85 #[.agg #[I (W:Int),I (H:Int),.slice (Ad b off) zs.length j,.slice y n d]] w (.tuple #[.agg #[SN,.map none,.map none],.bool false]):=by
 have Z:cellsB (W:Int) (H:Int) zs=true:=by
  have e1:sideB (W:Int)=true:=γ5;have e2:sideB (H:Int)=true:=γ5;have e3:(zs.length:Int)=(W:Int)*(H:Int):=by rw [M];simp
  simp only [cellsB,e1,e2,decide_eq_true e3,N];rfl
 have A:sideB (W:Int)=true:=γ5;have z:sideB (H:Int)=true:=γ5;have J:(zs.length:Int)=(W:Int)*(H:Int):=by rw [M];simp
 have Q:Hid (∀ a:World,Bl w a→Cl 170 #[.agg #[I (W:Int),I (H:Int),.slice (Ad b off) zs.length j,.slice y n d]] a fun e w'=>e=.returned (.bool true)∧∃ o,w'=a.alloc o):=fun a h=>N ▸ Zc W H _ j zs _ a A z (hr.kept h) J;have P:Hid (∀ a:World,Cl 169 #[I (W:Int)] a fun e w'=>e=.returned (.bool true)∧w'=a):=fun a=>A ▸ Jm (W:Int) a;have B:Hid (∀ a:World,Cl 169 #[I (H:Int)] a fun e w'=>e=.returned (.bool true)∧w'=a):=fun a=>z ▸ Jm (H:Int) a;have C:=Hd (fun (a:World) h=>of_any W H b off j zs a (hs.kept h) (hr.kept h) K X M N);have u:(ty zs W H).length≤300:=by have:=Yu zs W H K.2;omega
 have D:Hid (∀ (a:World) (m:Option Addr) (s l t:Nat),Bl w a→PA a m l (ty zs W H)→Cl 172 #[.agg #[.slice m (ty zs W H).length s,.map (some l),.map (some t)]] a fun e w'=>∃ bb:Bool,e=.returned (.bool bb)∧(bb=true↔Joined (ty zs W H))∧Bl a w'):=fun a m s l t h hp=>Uw a s l t m _ (hs.kept h) hp u (Yl zs W H) (Kg K.2 X.2);have R:Hid (∀ (a:World) (m:Option Addr) (s l t:Nat),Bl w a→PA a m l (ty zs W H)→Cl 173 #[.agg #[.slice m (ty zs W H).length s,.map (some l),.map (some t)],.slice y n d] a fun e w'=>∃ bb:Bool,e=.returned (.bool bb)∧(bb=true↔∀ i,i<n→CrOk (ty zs W H) O i)∧Bl a w'):=fun a m s l t h hp=>Yy a s l t n d m y _ O hp (hk.kept h) hn a2;have a7:=Hd (Xu hk hn);clear hr M N K X hk hn hs Z A z J;obtain ⟨L,Y⟩:∃ L,L=ty zs W H:=⟨_,rfl⟩;rw [← Y] at C D R u;rw [← Y] at hJ;clear Y;go_enter Tryz.func85,Tryz.ntmps85
 go_wp2_with (first
  | (go_at_call 169;first | (refine (P.out _).mono ?_;rintro e w9 ⟨rfl,q⟩;have r:=q.symm;clear q;subst r) | (refine (B.out _).mono ?_;rintro e w9 ⟨rfl,q⟩;have r:=q.symm;clear q;subst r))
  | (go_at_call 170;refine (Q.out _ Ψ).mono ?_;rintro e w9 ⟨rfl,o9,rfl⟩)
  | (go_at_call 171;refine (C.out _ (by with_reducible exact Qb β2)).mono ?_;rintro e x ⟨m,s,base,pb,l,t,rfl,F⟩;have g:=Hd (F.pk.base β1);have s0:At x w.heap.size 0 (I (W:Int)):=Qa g.out.2.2.2.2 δ;have s1:At x w.heap.size 1 (I (H:Int)):=Qa g.out.2.2.2.2 δ;have s2:At x w.heap.size 2 (.slice (some ⟨b,off,none⟩) zs.length j):=Qa g.out.2.2.2.2 δ;have s3:At x w.heap.size 3 (.slice y n d):=Qa g.out.2.2.2.2 δ;have z3:=Bt s0;have af:w.heap.size+1<x.heap.size:=Nl ξ g.out.2.2.2.2.size;clear F)
  | (go_at_call 172;refine (D.out _ _ s l t (Qb (Qc β2 g.out.2.2.2.2)) (g.out.pa.kept β1)).mono ?_;rintro e k ⟨E,rfl,G,f⟩;obtain rfl:E=false:=(by cases E with | false=>rfl | true=>exact absurd (G.1 rfl) hJ);have c:=H2 (g.out.kept (Qc β1 f)) (Qc β1 f);have r0:At k w.heap.size 0 (I (W:Int)):=Qa c.out.2 s0;have r1:At k w.heap.size 1 (I (H:Int)):=Qa c.out.2 s1;have r2:At k w.heap.size 2 (.slice (some ⟨b,off,none⟩) zs.length j):=Qa c.out.2 s2;have r3:At k w.heap.size 3 (.slice y n d):=Qa c.out.2 s3;have a6:At k x.heap.size 0 (.slice m L.length s):=Qa f δ;have ac:At k x.heap.size 1 (.map (some l)):=Qa f δ;have ae:At k x.heap.size 2 (.map (some t)):=Qa f δ;have z4:=Bt r0;have ag:=Bt a6;have T:At k (w.heap.size+1) 0 SN:=Qa c.out.1.2.2.2.2 δ;have U:At k (w.heap.size+1) 1 (.map none):=Qa c.out.1.2.2.2.2 δ;have V:At k (w.heap.size+1) 2 (.map none):=Qa c.out.1.2.2.2.2 δ;have a8:Fn k (w.heap.size+1) 0:=(c.out.1.2.2.2.2.frozen (p:=⟨w.heap.size+1,0,none⟩) ξ).trans δ;have aa:Fn k (w.heap.size+1) 1:=(c.out.1.2.2.2.2.frozen (p:=⟨w.heap.size+1,1,none⟩) ξ).trans δ;have ab:Fn k (w.heap.size+1) 2:=(c.out.1.2.2.2.2.frozen (p:=⟨w.heap.size+1,2,none⟩) ξ).trans δ;clear G f))
 refine bodyPost_ret (v:=.tuple #[.agg #[SN,.map none,.map none],.bool false]) ?_ rfl ⟨rfl, ?_⟩
 ·simp [results,Tryz.results85,go_sem,T,U,V]
 ·have hq:=Qc (Qb (Qb (Qe w))) c.out.1.2.2.2.2;exact ((hq.setCell (p:=⟨w.heap.size+1,0,none⟩) ξ _).setCell (p:=⟨w.heap.size+1,1,none⟩) ξ _).setCell (p:=⟨w.heap.size+1,2,none⟩) ξ _
theorem lay_nocrease (W H b off l n d:Nat) (z:Option Addr) (zs Q:List Int) (w:World) (hr:Row w (Ad b off) zs) (T:1≤W∧W≤8) (hH:1≤H∧H≤8) (U:zs.length=W*H) (V:maskB zs=true) (hk:Row w z Q) (hn:Q.length=n*5) (aa:n≤3518437208883) (hs:Steps w) (hJ:Joined (ty zs W H)) (hC:¬ ∀ i,i<n→CrOk (ty zs W H) Q i) :
  Rt 85 #[.agg #[I (W:Int),I (H:Int),.slice (Ad b off) zs.length l,.slice z n d]] w (.tuple #[.agg #[SN,.map none,.map none],.bool false]):=by
 have a8:cellsB (W:Int) (H:Int) zs=true:=by
  have e1:sideB (W:Int)=true:=γ5;have e2:sideB (H:Int)=true:=γ5;have e3:(zs.length:Int)=(W:Int)*(H:Int):=by rw [U];simp
  simp only [cellsB,e1,e2,decide_eq_true e3,V];rfl
 have C:sideB (W:Int)=true:=γ5;have B:sideB (H:Int)=true:=γ5;have P:(zs.length:Int)=(W:Int)*(H:Int):=by rw [U];simp
 have Y:Hid (∀ a:World,Bl w a→Cl 170 #[.agg #[I (W:Int),I (H:Int),.slice (Ad b off) zs.length l,.slice z n d]] a fun e w'=>e=.returned (.bool true)∧∃ o,w'=a.alloc o):=fun a h=>V ▸ Zc W H _ l zs _ a C B (hr.kept h) P;have X:Hid (∀ a:World,Cl 169 #[I (W:Int)] a fun e w'=>e=.returned (.bool true)∧w'=a):=fun a=>C ▸ Jm (W:Int) a;have E:Hid (∀ a:World,Cl 169 #[I (H:Int)] a fun e w'=>e=.returned (.bool true)∧w'=a):=fun a=>B ▸ Jm (H:Int) a;have F:=Hd (fun (a:World) h=>of_any W H b off l zs a (hs.kept h) (hr.kept h) T hH U V);have A:(ty zs W H).length≤300:=by have:=Yu zs W H T.2;omega
 have G:Hid (∀ (a:World) (r:Option Addr) (s m t:Nat),Bl w a→PA a r m (ty zs W H)→Cl 172 #[.agg #[.slice r (ty zs W H).length s,.map (some m),.map (some t)]] a fun e w'=>∃ bb:Bool,e=.returned (.bool bb)∧(bb=true↔Joined (ty zs W H))∧Bl a w'):=fun a r s m t h hp=>Uw a s m t r _ (hs.kept h) hp A (Yl zs W H) (Kg T.2 hH.2);have J:Hid (∀ (a:World) (r:Option Addr) (s m t:Nat),Bl w a→PA a r m (ty zs W H)→Cl 173 #[.agg #[.slice r (ty zs W H).length s,.map (some m),.map (some t)],.slice z n d] a fun e w'=>∃ bb:Bool,e=.returned (.bool bb)∧(bb=true↔∀ i,i<n→CrOk (ty zs W H) Q i)∧Bl a w'):=fun a r s m t h hp=>Yy a s m t n d r z _ Q hp (hk.kept h) hn aa;have ae:=Hd (Xu hk hn);clear hr U V T hH hk hn hs a8 C B P;obtain ⟨L,hL⟩:∃ L,L=ty zs W H:=⟨_,rfl⟩;rw [← hL] at F G J A;rw [← hL] at hJ hC;have HJ:=Hd hJ;have HC:=Hd hC;clear hL hJ hC;go_enter Tryz.func85,Tryz.ntmps85
 go_wp2_with (first
  | (go_at_call 169;first | (refine (X.out _).mono ?_;rintro e w9 ⟨rfl,u⟩;have x:=u.symm;clear u;subst x) | (refine (E.out _).mono ?_;rintro e w9 ⟨rfl,u⟩;have x:=u.symm;clear u;subst x))
  | (go_at_call 170;refine (Y.out _ Ψ).mono ?_;rintro e w9 ⟨rfl,o9,rfl⟩)
  | (go_at_call 171;refine (F.out _ (by with_reducible exact Qb β2)).mono ?_;rintro e y ⟨r,s,base,pb,m,t,rfl,M⟩;have g:=Hd (M.pk.base β1);have s0:At y w.heap.size 0 (I (W:Int)):=Qa g.out.2.2.2.2 δ;have s1:At y w.heap.size 1 (I (H:Int)):=Qa g.out.2.2.2.2 δ;have s2:At y w.heap.size 2 (.slice (some ⟨b,off,none⟩) zs.length l):=Qa g.out.2.2.2.2 δ;have s3:At y w.heap.size 3 (.slice z n d):=Qa g.out.2.2.2.2 δ;have z3:=Bt s0;have am:w.heap.size+1<y.heap.size:=Nl ξ g.out.2.2.2.2.size;clear M)
  | (go_at_call 172;refine (G.out _ _ s m t (Qb (Qc β2 g.out.2.2.2.2)) (g.out.pa.kept β1)).mono ?_;rintro e D ⟨Z,rfl,N,f⟩;obtain rfl:Z=true:=N.2 HJ.out;have j:=H2 (g.out.kept (Qc β1 f)) (Qc β1 f);have r0:At D w.heap.size 0 (I (W:Int)):=Qa j.out.2 s0;have r1:At D w.heap.size 1 (I (H:Int)):=Qa j.out.2 s1;have r2:At D w.heap.size 2 (.slice (some ⟨b,off,none⟩) zs.length l):=Qa j.out.2 s2;have r3:At D w.heap.size 3 (.slice z n d):=Qa j.out.2 s3;have R:At D y.heap.size 0 (.slice r L.length s):=Qa f δ;have ab:At D y.heap.size 1 (.map (some m)):=Qa f δ;have ac:At D y.heap.size 2 (.map (some t)):=Qa f δ;have z4:=Bt r0;have an:=Bt R;clear N f)
  | (go_at_call 173;refine (J.out _ _ s m t (Qc β2 j.out.1.2.2.2.2) j.out.1.pa).mono ?_;rintro e q ⟨K,rfl,O,c⟩;obtain rfl:K=false:=(by cases K with | false=>rfl | true=>exact absurd (O.1 rfl) HC.out);have k:=Hd (j.out.1.kept c);have v0:At q w.heap.size 0 (I (W:Int)):=Qa c r0;have v1:At q w.heap.size 1 (I (H:Int)):=Qa c r1;have v2:At q w.heap.size 2 (.slice (some ⟨b,off,none⟩) zs.length l):=Qa c r2;have v3:At q w.heap.size 3 (.slice z n d):=Qa c r3;have ai:At q y.heap.size 0 (.slice r L.length s):=Qa c R;have aj:At q y.heap.size 1 (.map (some m)):=Qa c ab;have ak:At q y.heap.size 2 (.map (some t)):=Qa c ac;have z5:=Bt v0;have a2:At q (w.heap.size+1) 0 SN:=Qa k.out.2.2.2.2 δ;have a6:At q (w.heap.size+1) 1 (.map none):=Qa k.out.2.2.2.2 δ;have a7:At q (w.heap.size+1) 2 (.map none):=Qa k.out.2.2.2.2 δ;have af:Fn q (w.heap.size+1) 0:=(k.out.2.2.2.2.frozen (p:=⟨w.heap.size+1,0,none⟩) ξ).trans δ;have ag:Fn q (w.heap.size+1) 1:=(k.out.2.2.2.2.frozen (p:=⟨w.heap.size+1,1,none⟩) ξ).trans δ;have ah:Fn q (w.heap.size+1) 2:=(k.out.2.2.2.2.frozen (p:=⟨w.heap.size+1,2,none⟩) ξ).trans δ;clear O c))
 refine bodyPost_ret (v:=.tuple #[.agg #[SN,.map none,.map none],.bool false]) ?_ rfl ⟨rfl, ?_⟩
 ·simp [results,Tryz.results85,go_sem,a2,a6,a7]
 ·have hq:=Qc (Qb (Qb (Qe w))) k.out.2.2.2.2;exact ((hq.setCell (p:=⟨w.heap.size+1,0,none⟩) ξ _).setCell (p:=⟨w.heap.size+1,1,none⟩) ξ _).setCell (p:=⟨w.heap.size+1,2,none⟩) ξ _
def kdn (ks:List Int):Nat→Int×Int×Int×Int→Int
 | 0,_=>0
 | i+1,e=>if e=(ck ks i 0,ck ks i 1,ck ks i 2,ck ks i 3) then ck ks i 4 else kdn ks i e
theorem kf_kdn (a:List Int) (e:E4):∀ n,(kf a n e).getD (I 0)=I (kdn a n e)
 | 0=>rfl
 | i+1=>by
  unfold kf kdn;split
  ·rfl
  ·exact kf_kdn a e i
def KL (w:World) (rk:Nat) (kd:E4→Int):Prop := ∀ (e:E4) (wx:World),Bl w wx→(Instr.lookup 96 (.map (some rk)) (ek e) false).run Tryz.prog wx=.ok (I (kd e)) wx
theorem KL.kept {a:Nat} {kd:E4→Int} (h:KL w a kd) (b:Bl w w'):KL w' a kd:=fun e d c=>h e d (Qc b c)
theorem zero3 (w:World):(zeroValue 3).run Tryz.prog w=.ok (I 0) w:=η
theorem PK.kl {k:World} {base:Nat} {j:Value} {G:E4→List Int} {d:List Int} (h:PK k w base i f j L G (kf d n)):KL w f (kdn d n):=fun e l g=>by
 obtain ⟨ls,c,h4,a,b⟩:=h.2.2.1;have:=lookup27 Tryz.underlying96 zero3 (h4.grown (Qy g) ξ) a e;rw [b e,kf_kdn] at this;exact this
theorem kind_any (w:World) (b:Option Addr) (n c e a:Nat) (kd:E4→Int) (p q r s:Int) (d:KL w a kd) :
  Rt 191 #[.agg #[.slice b n c,.map (some e),.map (some a)],.agg #[I p,I q,I r,I s]] w (I (kd (p,q,r,s))):=by
 have f:=d (p,q,r,s) ((w.alloc (.cells #[.slice b n c,.map (some e),.map (some a)] 98)).alloc (.cells #[I p,I q,I r,I s] 42)) β2;simp only [ek] at f;clear d;go_enter Tryz.func191,Tryz.ntmps191;go_wp2;go_ret;exact ⟨rfl,Qb β1⟩
theorem Kn {a b c d:Int} (h1:a=c) (h2:b=d):Ending.returned (.agg #[I a,I b])=.returned (.agg #[I c,I d]):=by subst h1 h2;rfl
theorem paperLine_any (p q r s:Int) (w:World) (h1:0≤p∧p≤100) (h2:0≤q∧q≤100) :
  Rt 266 #[.agg #[I p,I q,I r,I s]] w (.agg #[I (lnW (p,q,r,s)),I (lnC (p,q,r,s))]):=by
 obtain ⟨a1,a⟩:=h1;obtain ⟨b1,b2⟩:=h2;by_cases c1:p=r
 ·subst c1;go_enter Tryz.func266,Tryz.ntmps266;go_wp2;refine bodyPost_ret (v:=.agg #[_,_]) (by simp [results,Tryz.results266,go_sem];exact ⟨rfl,rfl⟩) rfl ⟨?_, ?_⟩
  ·exact Kn (by simp [lnW]) (by simp [lnC])
  ·with_reducible repeat (first | exact Qe _ | refine Qb ?_ | refine Qh ?_ ?_)
   all_goals (simp)
 ·by_cases c2:q=s
  ·subst c2;go_enter Tryz.func266,Tryz.ntmps266;go_wp2;refine bodyPost_ret (v:=.agg #[_,_]) (by simp [results,Tryz.results266,go_sem];exact ⟨rfl,rfl⟩) rfl ⟨?_, ?_⟩
   ·exact Kn (by simp [lnW,c1]) (by simp [lnC,c1])
   ·with_reducible repeat (first | exact Qe _ | refine Qb ?_ | refine Qh ?_ ?_)
    all_goals (simp)
  ·by_cases c3:s<q
   ·go_enter Tryz.func266,Tryz.ntmps266;go_wp2;refine bodyPost_ret (v:=.agg #[_,_]) (by simp [results,Tryz.results266,go_sem];exact ⟨rfl,rfl⟩) rfl ⟨?_, ?_⟩
    ·exact Kn (by simp [lnW,c1,c2,c3]) (by simp [lnC,c1,c2,c3])
    ·with_reducible repeat (first | exact Qe _ | refine Qb ?_ | refine Qh ?_ ?_)
     all_goals (simp)
   ·go_enter Tryz.func266,Tryz.ntmps266;go_wp2;refine bodyPost_ret (v:=.agg #[_,_]) (by simp [results,Tryz.results266,go_sem];exact ⟨rfl,rfl⟩) rfl ⟨?_, ?_⟩
    ·exact Kn (by simp only [lnW,if_neg c1,if_neg c2,if_neg (show ¬ s<q by omega)]) (by simp only [lnC,if_neg c1,if_neg c2,if_neg (show ¬ s<q by omega)])
    ·with_reducible repeat (first | exact Qe _ | refine Qb ?_ | refine Qh ?_ ?_)
     all_goals (simp)
def mv (m:M6):Value:=.agg #[I m.1,I m.2.1,I m.2.2.1,I m.2.2.2.1,I m.2.2.2.2.1,I m.2.2.2.2.2]
theorem six_cases {o:Nat} (h:o<6):o=0∨o=1∨o=2∨o=3∨o=4∨o=5:=γ
def CrOne (ks:List Int) (n:Nat):Prop := ∀ i j,i<j→j<n→(ck ks i 0,ck ks i 1,ck ks i 2,ck ks i 3)≠(ck ks j 0,ck ks j 1,ck ks j 2,ck ks j 3)
theorem kdn_not {a:List Int} {e:E4}:∀ {n:Nat},(∀ i,i<n→e≠(ck a i 0,ck a i 1,ck a i 2,ck a i 3))→kdn a n e=0
 | 0,_=>rfl
 | n+1,h=>by
  unfold kdn;rw [if_neg (h n γ)];exact kdn_not (fun i hi=>h i γ)
theorem kdn_at {c:List Int} {e:E4}:∀ {n:Nat},CrOne c n→i<n→e=(ck c i 0,ck c i 1,ck c i 2,ck c i 3)→kdn c n e=ck c i 4
 | 0,_,h,_=>by omega
 | n+1,hc,h,he=>by
  unfold kdn;by_cases hi:i=n
  ·subst hi;rw [if_pos he]
  ·rw [if_neg (fun e2=>hc i n γ γ (he.symm.trans e2))];exact kdn_at (fun a b d f=>hc a b d γ) γ he
theorem kindOf_any (w:World) (W H mk:Value) (y:Option Addr) (n c:Nat) (b:List Int) (p q r s:Int) (F:CRow w y b n) (h1:CrOne b n) (Q:n≤3518437208883) :
  Rt 125 #[.agg #[W,H,mk,.slice y n c],.agg #[I p,I q,I r,I s]] w (I (kdn b n (p,q,r,s))):=by
 have G:=Hd F;have H1:=Hd h1;have O:=eql27;clear F h1;go_enter Tryz.func125,Tryz.ntmps125;go_wp2;go_loopg [5] n (fun K N o=>∃ i:Nat,i≤n∧K=n - i∧N=I (i:Int)∧(∀ k,k<i→(p,q,r,s)≠(ck b k 0,ck b k 1,ck b k 2,ck b k 3))∧Bl w o∧(At o w.heap.size 3 (.slice y n c)∧At o (w.heap.size+1) 0 (I p)∧At o (w.heap.size+1) 1 (I q)∧At o (w.heap.size+1) 2 (I r)∧At o (w.heap.size+1) 3 (I s)))
 case atStart=>exact ⟨0,γ,rfl,rfl,fun k h=>by omega,Qb β1,δ⟩
 case round =>
  obtain ⟨i,hi,rfl,rfl,t,E,u,d0,d1,d2,d3⟩:=hrel;have m:Hid (Bl w wr∧∀ k,k<i→(p,q,r,s)≠(ck b k 0,ck b k 1,ck b k 2,ck b k 3)):=⟨E,t⟩;clear E t;have z0:=Bt u;have z1:=Bt d0;by_cases h1:i<n
  ·have L:(i:Int)<(n:Int):=γ;have R:(0:Int)≤(i:Int):=γ;obtain ⟨C,D,rfl,c0,c1,c2,c3,c4⟩:=(G.out.kept m.out.1) i h1;have T:=Bt c0;obtain ⟨a0,d⟩:∃ a,a=ck b i 0:=⟨_,rfl⟩;obtain ⟨a1,f⟩:∃ a,a=ck b i 1:=⟨_,rfl⟩;obtain ⟨B,g⟩:∃ a,a=ck b i 2:=⟨_,rfl⟩;obtain ⟨a3,j⟩:∃ a,a=ck b i 3:=⟨_,rfl⟩;obtain ⟨a4,l⟩:∃ a,a=ck b i 4:=⟨_,rfl⟩;rw [← d] at c0;rw [← f] at c1;rw [← g] at c2;rw [← j] at c3;rw [← l] at c4;have v:Hid ((a0,a1,B,a3)=(ck b i 0,ck b i 1,ck b i 2,ck b i 3)∧a4=ck b i 4):=⟨by rw [d,f,g,j],l⟩;clear d f g j l
   cases hs:sameB a0 a1 B a3 p q r s
   ·have A:Hid ((p,q,r,s)≠(ck b i 0,ck b i 1,ck b i 2,ck b i 3)):=by
     have:(p,q,r,s)≠(ck b i 0,ck b i 1,ck b i 2,ck b i 3):=by
      rw [← v.out.1];intro e;simp only [Prod.mk.injEq] at e;obtain ⟨rfl,rfl,rfl,rfl⟩:=e;simp [sameB] at hs
     exact this
    go_wp2;go_quiet (fail)
    go_wp2;go_roundg (n - (i+1))
    case measure=>omega
    case rel =>
     refine ⟨i+1,γ,rfl,σ,fun k P=>?_,Qr m.out.1,u,d0,d1,d2,d3⟩;by_cases e:k=i
     ·subst e;exact A.out
     ·exact m.out.2 k γ
   ·have z:Hid ((p,q,r,s)=(ck b i 0,ck b i 1,ck b i 2,ck b i 3)):=by
     have:(p,q,r,s)=(ck b i 0,ck b i 1,ck b i 2,ck b i 3):=by
      rw [← v.out.1];simp only [sameB,decide_eq_true_eq] at hs;obtain ⟨rfl,rfl,rfl,rfl⟩:=hs;rfl
     exact this
    go_wp2;go_quiet (fail)
    generalize hwd:World.drewN wr _=wd;have M:At wd w.heap.size 3 (.slice (Ad C D) n c):=by rw [← hwd];exact u
    have J:At wd C (D+i*5+4) (I a4):=by rw [← hwd];exact c4
    have x:Hid (Bl w wd):=by rw [← hwd];exact Qr m.out.1
    clear hwd u c0 c1 c2 c3 c4 d0 d1 d2 d3;go_wp2;go_ret;refine ⟨?_,x.out⟩;rw [kdn_at H1.out h1 z.out,v.out.2];rfl
  ·have L:¬ (i:Int)<(n:Int):=γ;obtain rfl:i=n:=γ;go_wp2;go_ret;refine ⟨?_,m.out.1⟩;rw [kdn_not m.out.2];rfl
theorem line_along {t:T3} {p q r s:Int} (h:hasT t (p,q,r,s)=true) (c:(0≤t.1∧t.1≤8)∧(0≤t.2.1∧t.2.1≤8)∧(0≤t.2.2∧t.2.2≤3)) :
  ∃ V:Nat,V≤3∧lnW (p,q,r,s)=(V:Int)∧lnC (p,q,r,s)=alongOf (V:Int) p q∧alongOf (V:Int) p q=alongOf (V:Int) r s∧∀ v:Nat,v<V→alongOf (v:Int) p q≠alongOf (v:Int) r s:=by
 obtain ⟨x,y,k⟩:=t;simp only [hasT] at h c;rw [Qx] at h;obtain ⟨e,f,d⟩:=c;have a:k=0∨k=1∨k=2∨k=3:=γ
 have b:p≠r→q≠s→(s<q→p+q=r+s)∧(¬ s<q→p - q=r - s∧p+q≠r+s):=by
  rcases a with rfl | rfl | rfl | rfl <;> simp only [Zt,Zs,Zp,Zo,Zn,Zm,Zl,Zk,Zj,Zi,Zh,Zg] at h <;> omega
 clear h a e f d;by_cases c1:p=r
 ·exact ⟨0,γ,by simp [lnW,c1],by simp [lnC,c1,alongOf],by simp [alongOf,c1],fun v hv=>by omega⟩
 ·by_cases c2:q=s
  ·refine ⟨1,γ,by simp [lnW,c1,c2],by simp [lnC,c1,c2,alongOf],by simp [alongOf,c2],fun v hv=>?_⟩;obtain rfl:v=0:=γ;simpa [alongOf] using c1
  ·obtain ⟨k1,k2⟩:=b c1 c2;by_cases c3:s<q
   ·refine ⟨2,γ,by simp [lnW,c1,c2,c3],by simp [lnC,c1,c2,c3,alongOf],by simp [alongOf];exact k1 c3,fun v hv=>?_⟩;have:v=0∨v=1:=γ;rcases this with rfl | rfl
    ·simpa [alongOf] using c1
    ·simpa [alongOf] using c2
   ·obtain ⟨k3,g⟩:=k2 c3;refine ⟨3,γ,by simp [lnW,c1,c2,c3],by simp [lnC,c1,c2,c3,alongOf],by simp [alongOf];exact k3,fun v hv=>?_⟩;have:v=0∨v=1∨v=2:=γ;rcases this with rfl | rfl | rfl
    ·simpa [alongOf] using c1
    ·simpa [alongOf] using c2
    ·simpa [alongOf] using g
theorem Za (y a b:Int) (w:World) (h1:0≤a∧a≤100) (h2:0≤b∧b≤100) :
  Rt 221 #[I y,.agg #[I a,I b]] w (I (alongOf y a b)):=by
 refine (valueOf_any y a b w γ γ γ γ).mono ?_;rintro e w' ⟨rfl,o,rfl⟩;exact ⟨rfl,Qb (Qe _)⟩
theorem refLine_any (p q r s:Int) (w:World) (V:Nat) (J:V≤3) (h1:(0≤p∧p≤100)∧(0≤q∧q≤100)) (h2:(0≤r∧r≤100)∧(0≤s∧s≤100)) (k:alongOf (V:Int) p q=alongOf (V:Int) r s) (l:∀ v:Nat,v<V→alongOf (v:Int) p q≠alongOf (v:Int) r s) :
  Rt 127 #[.agg #[I p,I q,I r,I s]] w (.agg #[I (V:Int),I (alongOf (V:Int) p q)]):=by
 have H1:=H2 h1 h2;have z:Hid (alongOf (V:Int) p q=alongOf (V:Int) r s∧∀ v:Nat,v<V→alongOf (v:Int) p q≠alongOf (v:Int) r s):=⟨k,l⟩;clear h1 h2 k l;go_enter Tryz.func127,Tryz.ntmps127;go_wp2;go_loopg [3] V (fun F G j=>∃ v:Nat,v≤V∧F=V - v∧G=I (v:Int)∧Bl w j∧(At j w.heap.size 0 (I p)∧At j w.heap.size 1 (I q)∧At j w.heap.size 2 (I r)∧At j w.heap.size 3 (I s))∧(At j (w.heap.size+1) 0 (I 0)∧At j (w.heap.size+1) 1 (I 0)∧Fn j (w.heap.size+1) 0∧Fn j (w.heap.size+1) 1))
 case atStart=>exact ⟨0,γ,rfl,rfl,Qb β1,δ,δ⟩
 case round =>
  obtain ⟨v,hv,rfl,rfl,A,⟨d0,d1,d2,d3⟩,e0,e1,t,u⟩:=hrel;have y:=Hd A;have d:Hid ((At wr w.heap.size 0 (I p)∧At wr w.heap.size 1 (I q)∧At wr w.heap.size 2 (I r)∧At wr w.heap.size 3 (I s))∧(At wr (w.heap.size+1) 0 (I 0)∧At wr (w.heap.size+1) 1 (I 0)∧Fn wr (w.heap.size+1) 0∧Fn wr (w.heap.size+1) 1)):=⟨⟨d0,d1,d2,d3⟩,e0,e1,t,u⟩;clear A;have z0:=Bt d0;have z1:=Bt e0;obtain ⟨C,D⟩:=kcn wr;by_cases h1:v<V
  ·have l:¬ alongOf (v:Int) p q=alongOf (v:Int) r s:=z.out.2 v h1
   have o:Hid (∀ (a b:Int) (i:World),((a=p∧b=q)∨(a=r∧b=s))→Rt 221 #[I (v:Int),.agg #[I a,I b]] i (I (alongOf (v:Int) a b))):=fun a b i h=>by
    rcases h with ⟨rfl,rfl⟩ | ⟨rfl,rfl⟩
    ·exact Za _ _ _ i H1.out.1.1 H1.out.1.2
    ·exact Za _ _ _ i H1.out.2.1 H1.out.2.2
   go_wp2;refine wk ?_;repeat (go_big_quiet_step ((go_at_call 221;exact Qf (o.out _ _ _ (by first | exact Or.inl ⟨rfl,rfl⟩ | exact Or.inr ⟨rfl,rfl⟩)))))
   refine wpQuiet_nil ?_;intro x m;obtain ⟨n,c⟩:=m;have hq:Bl wr x:=c ▸ n.h;have g:=Hd hq;clear c n hq C D d0 d1 d2 d3 e0 e1 t u;go_wp2;go_roundg (V - (v+1))
   case measure=>omega
   case rel =>
    exact ⟨v+1,γ,rfl,σ,Qc y.out g.out,⟨Qa g.out d.out.1.1,Qa g.out d.out.1.2.1,Qa g.out d.out.1.2.2.1,Qa g.out d.out.1.2.2.2⟩,Qa g.out d.out.2.1,Qa g.out d.out.2.2.1,(g.out.frozen (p:=⟨w.heap.size+1,0,none⟩) z1).trans d.out.2.2.2.1,(g.out.frozen (p:=⟨w.heap.size+1,1,none⟩) z1).trans d.out.2.2.2.2⟩
  ·obtain rfl:v=V:=γ;have k:alongOf (v:Int) r s=alongOf (v:Int) p q:=z.out.1.symm
   have o:Hid (∀ (a b:Int) (i:World),((a=p∧b=q)∨(a=r∧b=s))→Rt 221 #[I (v:Int),.agg #[I a,I b]] i (I (alongOf (v:Int) a b))):=fun a b i h=>by
    rcases h with ⟨rfl,rfl⟩ | ⟨rfl,rfl⟩
    ·exact Za _ _ _ i H1.out.1.1 H1.out.1.2
    ·exact Za _ _ _ i H1.out.2.1 H1.out.2.2
   go_wp2;refine wk ?_;repeat (go_big_quiet_step ((go_at_call 221;exact Qf (o.out _ _ _ (by first | exact Or.inl ⟨rfl,rfl⟩ | exact Or.inr ⟨rfl,rfl⟩)))))
   refine wpQuiet_nil ?_;intro x m;obtain ⟨n,c⟩:=m;have hq:Bl wr x:=c ▸ n.h;have g:=Hd hq;have E:=Qa hq d0;have H:=Qa hq d1;have M:=Bt E;clear c n hq C D d0 d1 d2 d3 e0 e1 t u;go_wp2_with (go_at_call 221;refine (o.out _ _ _ (by exact Or.inl ⟨rfl,rfl⟩)).mono ?_;rintro e L ⟨rfl,B⟩;have f:=Hd (Qc g.out B);have r0:=Qa f.out d.out.2.1;have r1:=Qa f.out d.out.2.2.1;have t0:=(f.out.frozen (p:=⟨w.heap.size+1,0,none⟩) z1).trans d.out.2.2.2.1;have K:=(f.out.frozen (p:=⟨w.heap.size+1,1,none⟩) z1).trans d.out.2.2.2.2;have z9:=Bt r0;clear B)
   refine bodyPost_ret (v:=.agg #[I (v:Int),I (alongOf (v:Int) p q)]) (by simp [results,Tryz.results127,go_sem,r0,r1]) rfl ⟨rfl, ?_⟩;with_reducible repeat (first | exact Qc y.out f.out | refine Qh ?_ ?_)
   all_goals (dsimp only;omega)
theorem neqC (a b c d e:Int) (w:World):(binOp .neq 80 (.agg #[I a,I b,I c,I d,I e]) (.agg #[I a,I b,I c,I d,I e])).run Tryz.prog w=.ok (.bool false) w:=by
 simp [go_sem]
def sameM (a b c d e f A B C D E F:Int):Bool:=decide (a=A∧b=B∧c=C∧d=D∧e=E∧f=F)
theorem neqM (a b c d e f A B C D E F:Int) (w:World) :
  (binOp .neq 91 (.agg #[.int .i64 a,.int .i64 b,.int .i64 c,.int .i64 d,.int .i64 e,.int .i64 f]) (.agg #[.int .i64 A,.int .i64 B,.int .i64 C,.int .i64 D,.int .i64 E,.int .i64 F])).run Tryz.prog w=.ok (.bool (!sameM a b c d e f A B C D E F)) w:=by
 by_cases h1:a=A
 ·subst h1
  by_cases h2:b=B
  ·subst h2
   by_cases h3:c=C
   ·subst h3
    by_cases h4:d=D
    ·subst h4
     by_cases h5:e=E
     ·subst h5
      by_cases h6:f=F
      ·subst h6
       simp [go_sem,sameM]
      ·have e':(f == F)=false:=by simpa using h6
       simp [go_sem,sameM,e',h6]
     ·have e':(e == E)=false:=by simpa using h5
      simp [go_sem,sameM,e',h5]
    ·have e':(d == D)=false:=by simpa using h4
     simp [go_sem,sameM,e',h4]
   ·have e':(c == C)=false:=by simpa using h3
    simp [go_sem,sameM,e',h3]
  ·have e':(b == B)=false:=by simpa using h2
   simp [go_sem,sameM,e',h2]
 ·have e':(a == A)=false:=by simpa using h1
  simp [go_sem,sameM,e',h1]
def MCell (w:World) (g i:Nat) (m:M6):Prop:=At w g (i*6) (I m.1)∧At w g (i*6+1) (I m.2.1)∧At w g (i*6+2) (I m.2.2.1)∧At w g (i*6+3) (I m.2.2.2.1)∧At w g (i*6+4) (I m.2.2.2.2.1)∧At w g (i*6+5) (I m.2.2.2.2.2)
def MFree (w:World) (g i:Nat):Prop:=Fn w g (i*6)∧Fn w g (i*6+1)∧Fn w g (i*6+2)∧Fn w g (i*6+3)∧Fn w g (i*6+4)∧Fn w g (i*6+5)
def MRow (w:World) (g n:Nat) (M:Nat→M6):Prop := ∀ i,i<n→MCell w g i (M i)∧MFree w g i
theorem MRow.grown {row:Option Nat} (h:MRow w g n M) (hg:w.grownBy w' row) (b:some g≠row):MRow w' g n M:=fun i hi=>by
 obtain ⟨⟨a0,a1,c,a3,a4,a5⟩,f0,f1,f2,f3,f4,f5⟩:=h i hi;have q:∀ o,w'.frozen? ⟨g,o,none⟩=w.frozen? ⟨g,o,none⟩:=fun o=>Fo (a:=⟨g,o,none⟩) (hg.block g (bk a0) b);exact ⟨⟨hg.cell a0 b,hg.cell a1 b,hg.cell c b,hg.cell a3 b,hg.cell a4 b,hg.cell a5 b⟩,(q _).trans f0,(q _).trans f1,(q _).trans f2,(q _).trans f3,(q _).trans f4,(q _).trans f5⟩
theorem MRow.kept (h:MRow w g n M) (a:Bl w w'):MRow w' g n M:=h.grown (Qy a) ξ
def set6 (w:World) (g j:Nat) (m:M6):World:=(((((w.setCell ⟨g,j*6,none⟩ (I m.1)).setCell ⟨g,j*6+1,none⟩ (I m.2.1)).setCell ⟨g,j*6+2,none⟩ (I m.2.2.1)).setCell ⟨g,j*6+3,none⟩ (I m.2.2.2.1)).setCell ⟨g,j*6+4,none⟩ (I m.2.2.2.2.1)).setCell ⟨g,j*6+5,none⟩ (I m.2.2.2.2.2)
theorem Jq {u v:Value} (h:At w g k u):(w.setCell ⟨g,k,none⟩ v).cell? ⟨g,k,none⟩=some v:=Cs _ _ _ h
theorem Qn {a:Nat} {u v:Value} (h:At w g k u) (b:k≠a):(w.setCell ⟨g,a,none⟩ v).cell? ⟨g,k,none⟩=some u:=by
 rw [Co _ _ _ _ π];exact h
theorem MRow.set6 {j:Nat} (h:MRow w g n M) (d:j<n) (m:M6):MRow (set6 w g j m) g n (fun q=>if q=j then m else M q):=fun i hi=>by
 obtain ⟨⟨a0,a1,a,a3,a4,a5⟩,b⟩:=h i hi;refine ⟨?_,by simpa only [Fn,MFree,YtnpboeodhpenmaaGreatDoor.set6,Fz] using b⟩;by_cases e:i=j
 ·subst e;simp only [if_true];unfold YtnpboeodhpenmaaGreatDoor.set6;refine ⟨?_, ?_, ?_, ?_, ?_, ?_⟩
  ·exact Qn (Qn (Qn (Qn (Qn (Jq a0) γ) γ) γ) γ) γ
  ·exact Qn (Qn (Qn (Qn (Jq (Qn a1 γ)) γ) γ) γ) γ
  ·exact Qn (Qn (Qn (Jq (Qn (Qn a γ) γ)) γ) γ) γ
  ·exact Qn (Qn (Jq (Qn (Qn (Qn a3 γ) γ) γ)) γ) γ
  ·exact Qn (Jq (Qn (Qn (Qn (Qn a4 γ) γ) γ) γ)) γ
  ·exact Jq (Qn (Qn (Qn (Qn (Qn a5 γ) γ) γ) γ) γ)
 ·simp only [if_neg e];unfold YtnpboeodhpenmaaGreatDoor.set6
  have q:∀ {o:Nat} {u:Value},At w g (i*6+o) u→o<6→((((((w.setCell ⟨g,j*6,none⟩ (I m.1)).setCell ⟨g,j*6+1,none⟩ (I m.2.1)).setCell ⟨g,j*6+2,none⟩ (I m.2.2.1)).setCell ⟨g,j*6+3,none⟩ (I m.2.2.2.1)).setCell ⟨g,j*6+4,none⟩ (I m.2.2.2.2.1)).setCell ⟨g,j*6+5,none⟩ (I m.2.2.2.2.2)).cell? ⟨g,i*6+o,none⟩=some u:=fun {o u} c f =>
   Qn (Qn (Qn (Qn (Qn (Qn c γ) γ) γ) γ) γ) γ
  exact ⟨q (o:=0) a0 γ,q a1 γ,q a γ,q a3 γ,q a4 γ,q a5 γ⟩
theorem set6_grown (w:World) (g j:Nat) (m:M6):w.grownBy (set6 w g j m) (some g):=Ji (Ji (Ji (Ji (Ji (Ql _ _ _ _) (Ql _ _ _ _)) (Ql _ _ _ _)) (Ql _ _ _ _)) (Ql _ _ _ _)) (Ql _ _ _ _)
theorem made_zero (n k:Nat) (a:k<n*6):(madeCells #[I 0,I 0,I 0,I 0,I 0,I 0] (n*6)).toList[k]?=some (I 0):=by
 rw [Array.getElem?_toList];unfold madeCells;have h6:k % 6=0∨k % 6=1∨k % 6=2∨k % 6=3∨k % 6=4∨k % 6=5:=γ;rcases h6 with h | h | h | h | h | h <;> simp [a,h]
theorem maps_made {base:Nat} (h:w.ownsRow base 91 6 (.slice (Az g) n n) n (madeCells #[I 0,I 0,I 0,I 0,I 0,I 0] (n*6)).toList):MRow w g n (fun _=>noM):=fun i hi=>by
 have q:∀ k,k<n*6→At w g k (I 0):=fun k a=>(h.cellAt k a).trans (made_zero n k a)
 have f:∀ k,Fn w g k:=fun k=>by
  rcases h.2 with ⟨e1,_⟩ | ⟨b,c,d,e1,_,e,_⟩
  ·simp at e1
  ·simp only [Value.slice.injEq,Option.some.injEq,Addr.mk.injEq] at e1;obtain ⟨⟨rfl,_⟩,_⟩:=e1;simp [World.frozen?,e]
 exact ⟨⟨q _ γ,q _ γ,q _ γ,q _ γ,q _ γ,q _ γ⟩,f _,f _,f _,f _,f _,f _⟩
theorem inf59:(Tryz.prog.info? 91).map (fun i=>(i.zero,i.size,i.bytes))=some (some (.agg #[I 0,I 0,I 0,I 0,I 0,I 0]),6,48):=η
theorem sameTris_yes (a c:Option Addr) (v z:Nat) (L:List T3) (w:World) (O:L.length≤300) (j:TRow w a L) (l:TRow w c L) :
  Rt 20 #[.slice a L.length v,.slice c L.length z] w (.bool true):=by
 have s:=Hd j;have t:=Hd l;clear j l;go_enter Tryz.func20,Tryz.ntmps20;go_wp2;go_loopg [5] L.length (fun A E M=>∃ i:Nat,i≤L.length∧A=L.length - i∧E=I (i:Int)∧Bl w M)
 case atStart=>exact ⟨0,γ,rfl,rfl,Qe _⟩
 case round =>
  obtain ⟨i,hi,rfl,rfl,f⟩:=hrel;have d:=Hd f;clear f;by_cases h1:i<L.length
  ·have B:(i:Int)<(L.length:Int):=γ;have P:(0:Int)≤(i:Int):=γ;obtain ⟨g,rfl,t0,F,G⟩:=(s.out.kept d.out) i h1;obtain ⟨N,rfl,r,H,J⟩:=(t.out.kept d.out) i h1;have z1:=Bt t0;have z2:=Bt r;obtain ⟨x,o⟩:∃ x,x=L[i].1:=⟨_,rfl⟩;obtain ⟨y,p⟩:∃ y,y=L[i].2.1:=⟨_,rfl⟩;obtain ⟨k,m⟩:∃ k,k=L[i].2.2:=⟨_,rfl⟩;rw [← o] at t0 r;rw [← p] at F H;rw [← m] at G J
   have n:∀ w':World,(binOp .neq 51 (.agg #[I x,I y,I k]) (.agg #[I x,I y,I k])).run Tryz.prog w'=.ok (.bool false) w':=fun w'=>by
    have:=neq23 x y k x y k w';simpa [sameT] using this
   clear o p m;obtain ⟨C,D⟩:=kcn wr;go_wp2;refine wk ?_;repeat (go_big_quiet_step (fail))
   refine wpQuiet_nil ?_;intro K e;obtain ⟨q,b⟩:=e;have hq:Bl wr K:=b ▸ q.h;have u:=Hd (Qc d.out hq);clear b q hq C D;go_wp2;go_roundg (L.length - (i+1))
   case measure=>omega
   case rel=>exact ⟨i+1,γ,rfl,σ,u.out⟩
  ·have B:¬ (i:Int)<(L.length:Int):=γ;go_wp2;go_ret;exact ⟨rfl,d.out⟩
def SRow (w:World) (a:Option Addr) (S:List (T3×List T3)):Prop :=
 ∀ i (h:i<S.length),∃ g sa sc,a=Az g∧At w g (i*4) (I S[i].1.1)∧At w g (i*4+1) (I S[i].1.2.1)∧At w g (i*4+2) (I S[i].1.2.2)∧At w g (i*4+3) (.slice sa S[i].2.length sc)∧TRow w sa S[i].2
theorem SRow.kept {a:Option Addr} {S:List (T3×List T3)} (h:SRow w a S) (b:Bl w w'):SRow w' a S:=fun i hi=>by
 obtain ⟨g,d,f,e,c0,c1,c2,c3,c⟩:=h i hi;exact ⟨g,d,f,e,Qa b c0,Qa b c1,Qa b c2,Qa b c3,c.kept b⟩
theorem neqT_same (a b c:Int) (w:World):(binOp .neq 51 (.agg #[I a,I b,I c]) (.agg #[I a,I b,I c])).run Tryz.prog w=.ok (.bool false) w:=by
 simp [go_sem]
def pbox (w:World) (ad:Option Addr) (n cc ra rk:Nat) (vm vp:Value):World:=w.alloc (.cells #[.slice ad n cc,.map (some ra),.map (some rk),vm,vp] 100)
end Go.Proofs.YtnpboeodhpenmaaGreatDoor
