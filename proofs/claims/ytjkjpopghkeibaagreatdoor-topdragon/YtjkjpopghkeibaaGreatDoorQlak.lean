/- A part of it. -/
import Derived.Test.YtjkjpopghkeibaaGreatDoorQlah
import Derived.Test.YtjkjpopghkeibaaGreatDoorQlai
set_option maxRecDepth 100000
set_option maxHeartbeats 40000000
namespace Go.Proofs.YtjkjpopghkeibaaGreatDoor
open Go.RowKit Go.ChangeMaps
variable {w:World} {L:List T3} {b:Nat}
theorem gix_cnt (l:List T3) (p q r s:Int):∀ n,n≤l.length→(gix (l.take n) (p,q,r,s)).length=cnt (l.take n) p q r s
 | 0,_=>by simp [gix,cnt]
 | n+1,h=>by
  have a:=gix_cnt l p q r s n γ;rw [cnt_next γ,List.take_succ_eq_append_getElem γ,gix_snoc,List.length_append,a];congr 1
  unfold hasT;split <;> rfl
theorem gix_count (l:List T3) (p q r s:Int):(gix l (p,q,r,s)).length=cnt l p q r s:=by
 have:=gix_cnt l p q r s l.length (Nr _);rwa [List.take_length] at this
theorem inner_any (w:World) (e b g:Nat) (c:Option Addr) (L:List T3) (p q r s:Int) (f:PA w c b L) :
  Rt 93 #[.agg #[.slice c L.length e,.map (some b),.map (some g)],.agg #[I p,I q,I r,I s]] w (.bool (decide (cnt L p q r s=2))):=by
 obtain ⟨a,d,_,h⟩:=f.2 (p,q,r,s);have j:(Instr.lookup 56 (.map (some b)) (.agg #[I p,I q,I r,I s]) false).run Tryz.prog ((w.alloc (.cells #[.slice c L.length e,.map (some b),.map (some g)] 59)).alloc (.cells #[I p,I q,I r,I s] 47))=.ok (.slice a (gix L (p,q,r,s)).length d) ((w.alloc (.cells #[.slice c L.length e,.map (some b),.map (some g)] 59)).alloc (.cells #[I p,I q,I r,I s] 47)):=h _ β2;clear h;have i:=Hd (gix_count L p q r s);go_enter Tryz.func93,Tryz.ntmps93;go_wp2;go_ret;refine ⟨Qv ?_,Qb β1⟩;rw [i.out,Bool.eq_iff_iff];simp;omega
theorem Yy (w:World) (V U W n M:Nat) (K cb:Option Addr) (L:List T3) (a:List Int) (P:PA w K U L) (hk:Row w cb a) (hn:a.length=n*5) (a7:n≤3518437208883) :
  Cl 44 #[.agg #[.slice K L.length V,.map (some U),.map (some W)],.slice cb n M] w fun e w'=>∃ H:Bool,e=.returned (.bool H)∧(H=true↔∀ i,i<n→CrOk L a i)∧Bl w w':=by
 have x:=Hd (Xu hk hn);have C:Hid (∀ (p q r s:Int) (E:World),Bl w E→Rt 93 #[.agg #[.slice K L.length V,.map (some U),.map (some W)],.agg #[I p,I q,I r,I s]] E (.bool (decide (cnt L p q r s=2)))):=fun p q r s E hb=>inner_any E V U W K L p q r s (P.kept hb);clear P hk hn;go_enter Tryz.func44,Tryz.ntmps44;go_wp2;go_loopg [9] n (fun gk s9 E=>∃ i:Nat,i≤n∧gk=n - i∧s9=I (i:Int)∧(∀ j,j<i→CrOk L a j)∧(At E w.heap.size 0 (.slice K L.length V)∧At E w.heap.size 1 (.map (some U))∧At E w.heap.size 2 (.map (some W)))∧Bl w E)
 case atStart=>exact ⟨0,γ,rfl,rfl,fun j h=>by omega,δ,Qb (Qe _)⟩
 case round =>
  obtain ⟨i,hi,rfl,rfl,hp,O,hB⟩:=hrel;have J:=Hd hp;have l:=Hd O;have o:=Hd hB;obtain ⟨s0,s1,s2⟩:=O;have a8:=Bt s0;clear hp hB;by_cases h1:i<n
  ·have i1:(i:Int)<(n:Int):=γ;have i0:(0:Int)≤(i:Int):=γ;obtain ⟨H,bo,rfl,c0,c1,c2,c3,c4⟩:=(x.out.kept o.out) i h1;have X:=Bt c0;by_cases k1:(ck a i 4)=1
   ·have R:((ck a i 4) != 1)=false:=by simpa using k1
    have F:=Hd k1;clear k1
    cases g1:decide (cnt L (ck a i 0) (ck a i 1) (ck a i 2) (ck a i 3)=2)
    ·go_wp2_with (go_at_call 93;refine (C.out _ _ _ _ _ (Qb o.out)).mono ?_;rintro e5 k ⟨rfl,b⟩;have f:Bl wr k:=Qc β1 b;have d:=Hd f;have t0:At k wr.heap.size 0 (I (ck a i 0)):=Qa b δ;have t1:At k wr.heap.size 1 (I (ck a i 1)):=Qa b δ;have t2:At k wr.heap.size 2 (I (ck a i 2)):=Qa b δ;have t3:At k wr.heap.size 3 (I (ck a i 3)):=Qa b δ;have z5:=Bt t0;have z6:H<k.heap.size:=Nl X f.size;have u:=Hd (x.out.kept (Qc o.out f));clear b f)
     go_ret;first | exact ⟨false,rfl,⟨fun h=>Bool.noConfusion h,fun h=>absurd (h i h1).2.2 (by simpa using g1)⟩,Qc o.out d.out⟩ | exact Or.inl ⟨rfl,fun h=>absurd (h i h1).2.2 (by simpa using g1),Qc o.out d.out⟩
    ·have z:Hid (cnt L (ck a i 0) (ck a i 1) (ck a i 2) (ck a i 3)=2):=by show _=_;simpa using g1
     go_wp2_with (go_at_call 93;refine (C.out _ _ _ _ _ (Qb o.out)).mono ?_;rintro e5 k ⟨rfl,b⟩;have f:Bl wr k:=Qc β1 b;have d:=Hd f;have t0:At k wr.heap.size 0 (I (ck a i 0)):=Qa b δ;have t1:At k wr.heap.size 1 (I (ck a i 1)):=Qa b δ;have t2:At k wr.heap.size 2 (I (ck a i 2)):=Qa b δ;have t3:At k wr.heap.size 3 (I (ck a i 3)):=Qa b δ;have z5:=Bt t0;have z6:H<k.heap.size:=Nl X f.size;have u:=Hd (x.out.kept (Qc o.out f));clear b f)
     clear x;obtain ⟨kc,kn⟩:=kcn k;by_cases hi0:i=0
     ·have q0:¬ (0:Int)<(i:Int):=γ;have T:¬ 0<i:=γ;have G:=Hd hi0;clear hi0;refine wk ?_;repeat (go_big_quiet_step ((go_at_call 60;exact Qf (Jo _ _ _ _ _ _ _ _ _))))
      refine wpQuiet_nil ?_;intro B t;obtain ⟨v,c⟩:=t;have hq:Bl k B:=c ▸ v.h;have y:=Hd (Qc (Qc o.out d.out) hq);have g:=Hd (Qc d.out hq);clear c v hq;go_wp2;go_roundg (n - (i+1))
      case measure=>omega
      case rel =>
       refine ⟨i+1,γ,rfl,σ,fun j Q=>?_,⟨Qa g.out l.out.1,Qa g.out l.out.2.1,Qa g.out l.out.2.2⟩,y.out⟩;by_cases ej:j=i
       ·subst ej;exact ⟨fun h=>absurd h (by have:=G.out;omega),Or.inl F.out,z.out⟩
       ·exact J.out j γ
     ·have q0:(0:Int)<(i:Int):=γ;have T:0<i:=γ;obtain ⟨m,hm⟩:∃ m,i=m+1:=⟨i - 1,γ⟩;have a2:(i:Int) - 1=(m:Int):=γ;have m1:(m:Int)<(n:Int):=γ;have m0:(0:Int)≤(m:Int):=γ;obtain ⟨Y,Z,N,p0,p1,p2,p3,_⟩:=u.out m γ;simp only [Option.some.injEq,Addr.mk.injEq,and_true] at N;obtain ⟨rfl,rfl⟩:=N;have A:Hid (i - 1=m):=by show i - 1=m;omega
      clear hi0 hm
      cases hless:lessE (ck a m 0) (ck a m 1) (ck a m 2) (ck a m 3) (ck a i 0) (ck a i 1) (ck a i 2) (ck a i 3)
      ·have D:Hid (¬ CrOk L a i):=fun h=>by
        have:=h.1 T;rw [A.out,hless] at this;exact Bool.noConfusion this
       have hc:(0:Int)≤cmpE (ck a m 0) (ck a m 1) (ck a m 2) (ck a m 3) (ck a i 0) (ck a i 1) (ck a i 2) (ck a i 3):=by
        rcases Int.lt_or_le (cmpE (ck a m 0) (ck a m 1) (ck a m 2) (ck a m 3) (ck a i 0) (ck a i 1) (ck a i 2) (ck a i 3)) 0 with h | h
        ·rw [Vg,hless] at h;exact Bool.noConfusion h
        ·exact h
       clear hless;refine wk ?_;repeat (go_big_quiet_step ((go_at_call 60;exact Qf (Jo _ _ _ _ _ _ _ _ _))))
       refine wpQuiet_nil ?_;intro B t;obtain ⟨v,c⟩:=t;have hq:Bl k B:=c ▸ v.h;have y:=Hd (Qc (Qc o.out d.out) hq);have g:=Hd (Qc d.out hq);clear c v hq;go_wp2;go_ret;first | exact ⟨false,rfl,⟨fun h=>Bool.noConfusion h,fun h=>absurd (h i h1) D.out⟩,y.out⟩ | exact Or.inl ⟨rfl,fun h=>absurd (h i h1) D.out,y.out⟩
      ·have D:Hid (0<i→lessE (ck a (i - 1) 0) (ck a (i - 1) 1) (ck a (i - 1) 2) (ck a (i - 1) 3) (ck a i 0) (ck a i 1) (ck a i 2) (ck a i 3)=true):=fun _=>by rw [A.out];exact hless
       have hc:¬ (0:Int)≤cmpE (ck a m 0) (ck a m 1) (ck a m 2) (ck a m 3) (ck a i 0) (ck a i 1) (ck a i 2) (ck a i 3):=by
        have:=(Vg (ck a m 0) (ck a m 1) (ck a m 2) (ck a m 3) (ck a i 0) (ck a i 1) (ck a i 2) (ck a i 3)).2 hless;omega
       clear hless;refine wk ?_;repeat (go_big_quiet_step ((go_at_call 60;exact Qf (Jo _ _ _ _ _ _ _ _ _))))
       refine wpQuiet_nil ?_;intro B t;obtain ⟨v,c⟩:=t;have hq:Bl k B:=c ▸ v.h;have y:=Hd (Qc (Qc o.out d.out) hq);have g:=Hd (Qc d.out hq);clear c v hq;go_wp2;go_roundg (n - (i+1))
       case measure=>omega
       case rel =>
        refine ⟨i+1,γ,rfl,σ,fun j Q=>?_,⟨Qa g.out l.out.1,Qa g.out l.out.2.1,Qa g.out l.out.2.2⟩,y.out⟩;by_cases ej:j=i
        ·subst ej;exact ⟨D.out,Or.inl F.out,z.out⟩
        ·exact J.out j γ
   ·by_cases k2:(ck a i 4)=2
    ·have R:((ck a i 4) != 1)=true:=by simpa using k1
     have a6:((ck a i 4) != 2)=false:=by simpa using k2
     have F:=Hd k2;clear k1 k2
     cases g1:decide (cnt L (ck a i 0) (ck a i 1) (ck a i 2) (ck a i 3)=2)
     ·go_wp2_with (go_at_call 93;refine (C.out _ _ _ _ _ (Qb o.out)).mono ?_;rintro e5 k ⟨rfl,b⟩;have f:Bl wr k:=Qc β1 b;have d:=Hd f;have t0:At k wr.heap.size 0 (I (ck a i 0)):=Qa b δ;have t1:At k wr.heap.size 1 (I (ck a i 1)):=Qa b δ;have t2:At k wr.heap.size 2 (I (ck a i 2)):=Qa b δ;have t3:At k wr.heap.size 3 (I (ck a i 3)):=Qa b δ;have z5:=Bt t0;have z6:H<k.heap.size:=Nl X f.size;have u:=Hd (x.out.kept (Qc o.out f));clear b f)
      go_ret;first | exact ⟨false,rfl,⟨fun h=>Bool.noConfusion h,fun h=>absurd (h i h1).2.2 (by simpa using g1)⟩,Qc o.out d.out⟩ | exact Or.inl ⟨rfl,fun h=>absurd (h i h1).2.2 (by simpa using g1),Qc o.out d.out⟩
     ·have z:Hid (cnt L (ck a i 0) (ck a i 1) (ck a i 2) (ck a i 3)=2):=by show _=_;simpa using g1
      go_wp2_with (go_at_call 93;refine (C.out _ _ _ _ _ (Qb o.out)).mono ?_;rintro e5 k ⟨rfl,b⟩;have f:Bl wr k:=Qc β1 b;have d:=Hd f;have t0:At k wr.heap.size 0 (I (ck a i 0)):=Qa b δ;have t1:At k wr.heap.size 1 (I (ck a i 1)):=Qa b δ;have t2:At k wr.heap.size 2 (I (ck a i 2)):=Qa b δ;have t3:At k wr.heap.size 3 (I (ck a i 3)):=Qa b δ;have z5:=Bt t0;have z6:H<k.heap.size:=Nl X f.size;have u:=Hd (x.out.kept (Qc o.out f));clear b f)
      clear x;obtain ⟨kc,kn⟩:=kcn k;by_cases hi0:i=0
      ·have q0:¬ (0:Int)<(i:Int):=γ;have T:¬ 0<i:=γ;have G:=Hd hi0;clear hi0;refine wk ?_;repeat (go_big_quiet_step ((go_at_call 60;exact Qf (Jo _ _ _ _ _ _ _ _ _))))
       refine wpQuiet_nil ?_;intro B t;obtain ⟨v,c⟩:=t;have hq:Bl k B:=c ▸ v.h;have y:=Hd (Qc (Qc o.out d.out) hq);have g:=Hd (Qc d.out hq);clear c v hq;go_wp2;go_roundg (n - (i+1))
       case measure=>omega
       case rel =>
        refine ⟨i+1,γ,rfl,σ,fun j Q=>?_,⟨Qa g.out l.out.1,Qa g.out l.out.2.1,Qa g.out l.out.2.2⟩,y.out⟩;by_cases ej:j=i
        ·subst ej;exact ⟨fun h=>absurd h (by have:=G.out;omega),Or.inr F.out,z.out⟩
        ·exact J.out j γ
      ·have q0:(0:Int)<(i:Int):=γ;have T:0<i:=γ;obtain ⟨m,hm⟩:∃ m,i=m+1:=⟨i - 1,γ⟩;have a2:(i:Int) - 1=(m:Int):=γ;have m1:(m:Int)<(n:Int):=γ;have m0:(0:Int)≤(m:Int):=γ;obtain ⟨Y,Z,N,p0,p1,p2,p3,_⟩:=u.out m γ;simp only [Option.some.injEq,Addr.mk.injEq,and_true] at N;obtain ⟨rfl,rfl⟩:=N;have A:Hid (i - 1=m):=by show i - 1=m;omega
       clear hi0 hm
       cases hless:lessE (ck a m 0) (ck a m 1) (ck a m 2) (ck a m 3) (ck a i 0) (ck a i 1) (ck a i 2) (ck a i 3)
       ·have D:Hid (¬ CrOk L a i):=fun h=>by
         have:=h.1 T;rw [A.out,hless] at this;exact Bool.noConfusion this
        have hc:(0:Int)≤cmpE (ck a m 0) (ck a m 1) (ck a m 2) (ck a m 3) (ck a i 0) (ck a i 1) (ck a i 2) (ck a i 3):=by
         rcases Int.lt_or_le (cmpE (ck a m 0) (ck a m 1) (ck a m 2) (ck a m 3) (ck a i 0) (ck a i 1) (ck a i 2) (ck a i 3)) 0 with h | h
         ·rw [Vg,hless] at h;exact Bool.noConfusion h
         ·exact h
        clear hless;refine wk ?_;repeat (go_big_quiet_step ((go_at_call 60;exact Qf (Jo _ _ _ _ _ _ _ _ _))))
        refine wpQuiet_nil ?_;intro B t;obtain ⟨v,c⟩:=t;have hq:Bl k B:=c ▸ v.h;have y:=Hd (Qc (Qc o.out d.out) hq);have g:=Hd (Qc d.out hq);clear c v hq;go_wp2;go_ret;first | exact ⟨false,rfl,⟨fun h=>Bool.noConfusion h,fun h=>absurd (h i h1) D.out⟩,y.out⟩ | exact Or.inl ⟨rfl,fun h=>absurd (h i h1) D.out,y.out⟩
       ·have D:Hid (0<i→lessE (ck a (i - 1) 0) (ck a (i - 1) 1) (ck a (i - 1) 2) (ck a (i - 1) 3) (ck a i 0) (ck a i 1) (ck a i 2) (ck a i 3)=true):=fun _=>by rw [A.out];exact hless
        have hc:¬ (0:Int)≤cmpE (ck a m 0) (ck a m 1) (ck a m 2) (ck a m 3) (ck a i 0) (ck a i 1) (ck a i 2) (ck a i 3):=by
         have:=(Vg (ck a m 0) (ck a m 1) (ck a m 2) (ck a m 3) (ck a i 0) (ck a i 1) (ck a i 2) (ck a i 3)).2 hless;omega
        clear hless;refine wk ?_;repeat (go_big_quiet_step ((go_at_call 60;exact Qf (Jo _ _ _ _ _ _ _ _ _))))
        refine wpQuiet_nil ?_;intro B t;obtain ⟨v,c⟩:=t;have hq:Bl k B:=c ▸ v.h;have y:=Hd (Qc (Qc o.out d.out) hq);have g:=Hd (Qc d.out hq);clear c v hq;go_wp2;go_roundg (n - (i+1))
        case measure=>omega
        case rel =>
         refine ⟨i+1,γ,rfl,σ,fun j Q=>?_,⟨Qa g.out l.out.1,Qa g.out l.out.2.1,Qa g.out l.out.2.2⟩,y.out⟩;by_cases ej:j=i
         ·subst ej;exact ⟨D.out,Or.inr F.out,z.out⟩
         ·exact J.out j γ
    ·have R:((ck a i 4) != 1)=true:=by simpa using k1
     have a6:((ck a i 4) != 2)=true:=by simpa using k2
     have F:Hid (¬ ((ck a i 4)=1∨(ck a i 4)=2)):=by rintro (h | h) <;> contradiction
     clear k1 k2;go_wp2;go_ret;first | exact ⟨false,rfl,⟨fun h=>Bool.noConfusion h,fun h=>absurd (h i h1).2.1 F.out⟩,Qb o.out⟩ | exact Or.inl ⟨rfl,fun h=>absurd (h i h1).2.1 F.out,Qb o.out⟩
  ·have i1:¬ (i:Int)<(n:Int):=γ;go_wp2;go_ret;first | exact ⟨true,rfl,⟨fun _ j Q=>J.out j γ,fun _=>rfl⟩,o.out⟩ | exact Or.inr ⟨rfl,fun j Q=>J.out j γ,o.out⟩
def PK (w0 w:World) (base ra rk:Nat) (vt:Value) (L:List T3) (G:E4→List Int) (kd:E4→Option Value):Prop :=
 w.ownsRow base 39 3 vt L.length (flatV L)∧GP w base ra vt G∧(∃ ls c,EM w rk ls c∧Good ls c∧∀ e,lk ls e=kd e)∧(w0.heap.size≤ra∧ra<base∧w0.heap.size≤rk∧rk<base∧ra≠rk∧base≤w.heap.size∧w0.heap.size≤base)∧Bl w0 w
theorem PP.pk {g:World} {base l d:Nat} {f:Value} {G:E4→List Int} (h:PP g w base l b d f L G):PK g w base b d f L G (fun _=>none):=by
 obtain ⟨h1,h2,h3,⟨c,h4,a⟩,⟨a1,m,a3,a4,a5,i,j,k⟩,h6⟩:=h;exact ⟨h2,h3,⟨[],c,h4,a,fun e=>rfl⟩,⟨a3,a4,a5,i,j,k,γ⟩,h6⟩
theorem PK.kept {i w':World} {base e f:Nat} {g:Value} {G:E4→List Int} {kd:E4→Option Value} (h:PK i w base e f g L G kd) (a:Bl w w'):PK i w' base e f g L G kd:=by
 obtain ⟨h2,h3,⟨ls,c,h4,b,d⟩,⟨a1,j,a3,a4,a5,k,l⟩,h6⟩:=h;exact ⟨Qj h2 a,h3.kept a,⟨ls,c,h4.grown (Qy a) ξ,b,d⟩,⟨a1,j,a3,a4,a5,Nt k a.size,l⟩,Qc h6 a⟩
theorem PK.base {f e:World} {base c:Nat} {d:Value} {G:E4→List Int} {kd:E4→Option Value} (h:PK e w base b c d L G kd) (a:Bl f e):PK f w base b c d L G kd:=by
 obtain ⟨h2,h3,h4,⟨a1,g,a3,a4,a5,i,j⟩,h6⟩:=h;have:=a.size;exact ⟨h2,h3,h4,⟨γ,g,γ,a4,a5,i,γ⟩,Qc a h6⟩
theorem PK.pa {o:World} {base k n l:Nat} {j:Option Addr} {kd:E4→Option Value} (h:PK o w base k n (.slice j L.length l) L (gix L) kd):PA w j k L:=by
 obtain ⟨h2,⟨ls,c,b1,b2,b3,b4,q⟩,h4⟩:=h;refine ⟨?_,fun e=>?_⟩
 ·obtain ⟨a,d,e,hT⟩:=Xc h2;simp only [Value.slice.injEq] at e;(try simp only [At,I,Fn,Az,Ad]);rw [e.1]
  exact hT
 ·cases hl:lk ls e with
  | none =>
   refine ⟨none,0,by (try simp only [At,I,Fn,Az,Ad]);rw [b3 e hl];intro i hi;simp at hi,fun p f=>?_⟩;have:=lookup27 Tryz.underlying56 zero70 (b1.grown (Qy f) ξ) b2 e;(try simp only [At,I,Fn,Az,Ad] at this);rw [hl] at this
   (try simp only [At,I,Fn,Az,Ad]);rw [b3 e hl]
   exact this
  | some v =>
   obtain ⟨d1,d2,d3⟩:=b4 e v hl
   obtain ⟨b,off,d,hv,hr⟩:∃ b off d,v=.slice (some ⟨b,off,none⟩) (gix L e).length d∧Row w (some ⟨b,off,none⟩) (gix L e):=by
    rcases d1.2 with ⟨rfl,h0⟩ | ⟨g,d,m,rfl,_⟩
    ·exact absurd (List.length_eq_zero_iff.1 h0) d2
    ·refine ⟨g,0,d,rfl,fun i hi=>⟨g,0,rfl, ?_⟩⟩;have:=d1.cellAt i γ;(try simp only [At,I]);rw [Nat.zero_add,this]
     simp [hi]
   refine ⟨some ⟨b,off,none⟩,d,hr,fun p f=>?_⟩;have:=lookup27 Tryz.underlying56 zero70 (b1.grown (Qy f) ξ) b2 e;(try simp only [At,I,Fn,Az,Ad] at this);rw [hl,hv] at this
   exact this
theorem PK.grown {j w':World} {base f i r:Nat} {p:Value} {G:E4→List Int} {kd:E4→Option Value} (h:PK j w base f i p L G kd) (hg:w.grownBy w' (some r)) (hr:j.heap.size≤r) (h1:r≠f) (h2:r≠i) (h3:r<base):PK j w' base f i p L G kd:=by
 obtain ⟨m,⟨ls,z,b1,b2,b3,b4,y⟩,⟨a,c,D,b,d⟩,⟨a1,t,a3,a4,a5,u,x⟩,o⟩:=h
 have l:∀ {v:Value} {n:Nat} {e:TypeId} {s:Nat} {q:List Value},w.ownsRow base e s v n q→v.ownBlock=none∨v.ownBlock≠some r:=fun {v n e s q} C=>by
  cases hu:v.ownBlock with
  | none=>exact Or.inl rfl
  | some g =>
   refine Or.inr (fun e1=>?_);have:=(C.lt g hu).1;simp at e1;omega
 refine ⟨m.kept hg (l m),⟨ls,z,b1.grown hg (fun e=>h1 (by simpa using e.symm)),b2,b3,fun e v A=>?_,y⟩,⟨a,c,D.grown hg (fun e=>h2 (by simpa using e.symm)),b,d⟩,⟨a1,t,a3,a4,a5,Nt u hg.size,x⟩,o.grown hg o.size (fun k B=>by simp at B;omega)⟩;obtain ⟨d1,d2,d3⟩:=b4 e v A;exact ⟨d1.kept hg (l d1),d2,d3⟩
theorem PK.update {u:World} {base r:Nat} {t:Value} {G:E4→List Int} {kd:E4→Option Value} (h:PK u w base r b t L G kd) (e:E4) (v:Value) :
  ∃ W',(Instr.mapUpdate 57 (.map (some b)) (ek e) v).run Tryz.prog w=.ok () W'∧w.grownBy W' (some b)∧PK u W' base r b t L G (fun j=>if j=e then some v else kd j):=by
 obtain ⟨o,⟨ls,C,b1,b2,b3,b4,B⟩,⟨H,c,p,f,i⟩,⟨a1,y,a3,a4,a5,z,A⟩,q⟩:=h;obtain ⟨a,l,r1,r2,r3,_⟩:=update27 Tryz.underlying57 p f e v;have d:=p;unfold EM at d;have hg:=Yf d (.map (a.map toE).toArray l)
 have m:∀ {v:Value} {n:Nat} {e:TypeId} {s:Nat} {x:List Value},w.ownsRow base e s v n x→v.ownBlock=none∨v.ownBlock≠some b:=fun {v n e s x} F=>by
  cases hu:v.ownBlock with
  | none=>exact Or.inl rfl
  | some g =>
   refine Or.inr (fun e1=>?_);have:=(F.lt g hu).1;simp at e1;omega
 refine ⟨_,r1,hg,o.kept hg (m o),⟨ls,C,b1.grown hg (fun e=>a5 (by simpa using e)),b2,b3,fun e v D=>?_,B⟩,⟨a,l,heap_setBlock_same d _,r2,fun j=>by rw [r3 j,i j]⟩,⟨a1,y,a3,a4,a5,Nt z hg.size,A⟩,q.grown hg q.size (fun k E=>by simp at E;omega)⟩;obtain ⟨d1,d2,d3⟩:=b4 e v D;exact ⟨d1.kept hg (m d1),d2,d3⟩
def kf (ks:List Int):Nat→Int×Int×Int×Int→Option Value
 | 0,_=>none
 | i+1,e=>if e=(ck ks i 0,ck ks i 1,ck ks i 2,ck ks i 3) then some (I (ck ks i 4)) else kf ks i e
end Go.Proofs.YtjkjpopghkeibaaGreatDoor
