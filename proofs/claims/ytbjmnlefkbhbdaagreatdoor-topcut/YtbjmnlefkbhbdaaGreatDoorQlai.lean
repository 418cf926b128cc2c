/- A part of it. -/
import Derived.Test.YtbjmnlefkbhbdaaGreatDoorQlag
import Derived.Test.YtbjmnlefkbhbdaaGreatDoorQlah
set_option maxRecDepth 100000
set_option maxHeartbeats 40000000
namespace Go.Proofs.YtbjmnlefkbhbdaaGreatDoor
open Go.RowKit Go.ChangeMaps
variable {w:World} {L:List T3} {b:Nat}
theorem gix_cnt (l:List T3) (p q r s:Int):∀ n,n≤l.length→(gix (l.take n) (p,q,r,s)).length=cnt (l.take n) p q r s
 | 0,_=>by simp [gix,cnt]
 | n+1,h=>by
  have a:=gix_cnt l p q r s n γ;rw [cnt_next γ,List.take_succ_eq_append_getElem γ,gix_snoc,List.length_append,a];congr 1
  unfold hasT;split <;> rfl
theorem gix_count (l:List T3) (p q r s:Int):(gix l (p,q,r,s)).length=cnt l p q r s:=by
 have:=gix_cnt l p q r s l.length (Nr _);rwa [List.take_length] at this
theorem inner_any (w:World) (e b g:Nat) (c:Option Addr) (L:List T3) (p q r s:Int) (f:PA w c b L) :
  Rt 92 #[.agg #[.slice c L.length e,.map (some b),.map (some g)],.agg #[I p,I q,I r,I s]] w (.bool (decide (cnt L p q r s=2))):=by
 obtain ⟨a,d,_,hl⟩:=f.2 (p,q,r,s);have i:(Instr.lookup 62 (.map (some b)) (.agg #[I p,I q,I r,I s]) false).run Tryz.prog ((w.alloc (.cells #[.slice c L.length e,.map (some b),.map (some g)] 65)).alloc (.cells #[I p,I q,I r,I s] 77))=.ok (.slice a (gix L (p,q,r,s)).length d) ((w.alloc (.cells #[.slice c L.length e,.map (some b),.map (some g)] 65)).alloc (.cells #[I p,I q,I r,I s] 77)):=hl _ β2;clear hl;have h:=Hd (gix_count L p q r s);go_enter Tryz.func92,Tryz.ntmps92;go_wp2;go_ret;refine ⟨Qs ?_,Qc β1⟩;rw [h.out,Bool.eq_iff_iff];simp;omega
theorem Yi (w:World) (V U W n M:Nat) (K cb:Option Addr) (L:List T3) (a:List Int) (P:PA w K U L) (hk:Row w cb a) (hn:a.length=n*5) (a7:n≤3518437208883) :
  Cl 48 #[.agg #[.slice K L.length V,.map (some U),.map (some W)],.slice cb n M] w fun e w'=>∃ H:Bool,e=.returned (.bool H)∧(H=true↔∀ i,i<n→CrOk L a i)∧Bl w w':=by
 have x:=Hd (Vx hk hn);have C:Hid (∀ (p q r s:Int) (E:World),Bl w E→Rt 92 #[.agg #[.slice K L.length V,.map (some U),.map (some W)],.agg #[I p,I q,I r,I s]] E (.bool (decide (cnt L p q r s=2)))):=fun p q r s E hb=>inner_any E V U W K L p q r s (P.kept hb);clear P hk hn;go_enter Tryz.func48,Tryz.ntmps48;go_wp2;go_loopg [9] n (fun gk s9 E=>∃ i:Nat,i≤n∧gk=n - i∧s9=I (i:Int)∧(∀ j,j<i→CrOk L a j)∧(At E w.heap.size 0 (.slice K L.length V)∧At E w.heap.size 1 (.map (some U))∧At E w.heap.size 2 (.map (some W)))∧Bl w E)
 case atStart=>exact ⟨0,γ,rfl,rfl,fun j h=>by omega,ζ,Qc (Qd _)⟩
 case round =>
  obtain ⟨i,hi,rfl,rfl,hp,O,hB⟩:=hrel;have J:=Hd hp;have l:=Hd O;have o:=Hd hB;obtain ⟨s0,s1,s2⟩:=O;have a8:=Bt s0;clear hp hB;by_cases h1:i<n
  ·have i1:(i:Int)<(n:Int):=γ;have i0:(0:Int)≤(i:Int):=γ;obtain ⟨H,bo,rfl,c0,c1,c2,c3,c4⟩:=(x.out.kept o.out) i h1;have X:=Bt c0;by_cases k1:(ck a i 4)=1
   ·have R:((ck a i 4) != 1)=false:=by simpa using k1
    have F:=Hd k1;clear k1
    cases g1:decide (cnt L (ck a i 0) (ck a i 1) (ck a i 2) (ck a i 3)=2)
    ·go_wp2_with (go_at_call 92;refine (C.out _ _ _ _ _ (Qc o.out)).mono ?_;rintro e5 k ⟨rfl,b⟩;have f:Bl wr k:=Qb β1 b;have d:=Hd f;have t0:At k wr.heap.size 0 (I (ck a i 0)):=Qa b ζ;have t1:At k wr.heap.size 1 (I (ck a i 1)):=Qa b ζ;have t2:At k wr.heap.size 2 (I (ck a i 2)):=Qa b ζ;have t3:At k wr.heap.size 3 (I (ck a i 3)):=Qa b ζ;have z5:=Bt t0;have z6:H<k.heap.size:=Nl X f.size;have u:=Hd (x.out.kept (Qb o.out f));clear b f)
     go_ret;first | exact ⟨false,rfl,⟨fun h=>Bool.noConfusion h,fun h=>absurd (h i h1).2.2 (by simpa using g1)⟩,Qb o.out d.out⟩ | exact Or.inl ⟨rfl,fun h=>absurd (h i h1).2.2 (by simpa using g1),Qb o.out d.out⟩
    ·have z:Hid (cnt L (ck a i 0) (ck a i 1) (ck a i 2) (ck a i 3)=2):=by show _=_;simpa using g1
     go_wp2_with (go_at_call 92;refine (C.out _ _ _ _ _ (Qc o.out)).mono ?_;rintro e5 k ⟨rfl,b⟩;have f:Bl wr k:=Qb β1 b;have d:=Hd f;have t0:At k wr.heap.size 0 (I (ck a i 0)):=Qa b ζ;have t1:At k wr.heap.size 1 (I (ck a i 1)):=Qa b ζ;have t2:At k wr.heap.size 2 (I (ck a i 2)):=Qa b ζ;have t3:At k wr.heap.size 3 (I (ck a i 3)):=Qa b ζ;have z5:=Bt t0;have z6:H<k.heap.size:=Nl X f.size;have u:=Hd (x.out.kept (Qb o.out f));clear b f)
     clear x;obtain ⟨kc,kn⟩:=kcn k;by_cases hi0:i=0
     ·have q0:¬ (0:Int)<(i:Int):=γ;have T:¬ 0<i:=γ;have G:=Hd hi0;clear hi0;refine wk ?_;repeat (go_big_quiet_step ((go_at_call 93;exact Qm (Jj _ _ _ _ _ _ _ _ _))))
      refine wpQuiet_nil ?_;intro B t;obtain ⟨v,c⟩:=t;have hq:Bl k B:=c ▸ v.h;have y:=Hd (Qb (Qb o.out d.out) hq);have g:=Hd (Qb d.out hq);clear c v hq;go_wp2;go_roundg (n - (i+1))
      case measure=>omega
      case rel =>
       refine ⟨i+1,γ,rfl,σ,fun j Q=>?_,⟨Qa g.out l.out.1,Qa g.out l.out.2.1,Qa g.out l.out.2.2⟩,y.out⟩;by_cases ej:j=i
       ·subst ej;exact ⟨fun h=>absurd h (by have:=G.out;omega),Or.inl F.out,z.out⟩
       ·exact J.out j γ
     ·have q0:(0:Int)<(i:Int):=γ;have T:0<i:=γ;obtain ⟨m,hm⟩:∃ m,i=m+1:=⟨i - 1,γ⟩;have a2:(i:Int) - 1=(m:Int):=γ;have m1:(m:Int)<(n:Int):=γ;have m0:(0:Int)≤(m:Int):=γ;obtain ⟨Y,Z,N,p0,p1,p2,p3,_⟩:=u.out m γ;simp only [Option.some.injEq,Addr.mk.injEq,and_true] at N;obtain ⟨rfl,rfl⟩:=N;have A:Hid (i - 1=m):=by show i - 1=m;omega
      clear hi0 hm
      cases hless:lessE (ck a m 0) (ck a m 1) (ck a m 2) (ck a m 3) (ck a i 0) (ck a i 1) (ck a i 2) (ck a i 3)
      ·have D:Hid (¬ CrOk L a i):=fun h=>by
        have:=h.1 T;rw [A.out,hless] at this;exact Bool.noConfusion this
       have hc:(0:Int)≤cmpE (ck a m 0) (ck a m 1) (ck a m 2) (ck a m 3) (ck a i 0) (ck a i 1) (ck a i 2) (ck a i 3):=by
        rcases Int.lt_or_le (cmpE (ck a m 0) (ck a m 1) (ck a m 2) (ck a m 3) (ck a i 0) (ck a i 1) (ck a i 2) (ck a i 3)) 0 with h | h
        ·rw [Yd,hless] at h;exact Bool.noConfusion h
        ·exact h
       clear hless;refine wk ?_;repeat (go_big_quiet_step ((go_at_call 93;exact Qm (Jj _ _ _ _ _ _ _ _ _))))
       refine wpQuiet_nil ?_;intro B t;obtain ⟨v,c⟩:=t;have hq:Bl k B:=c ▸ v.h;have y:=Hd (Qb (Qb o.out d.out) hq);have g:=Hd (Qb d.out hq);clear c v hq;go_wp2;go_ret;first | exact ⟨false,rfl,⟨fun h=>Bool.noConfusion h,fun h=>absurd (h i h1) D.out⟩,y.out⟩ | exact Or.inl ⟨rfl,fun h=>absurd (h i h1) D.out,y.out⟩
      ·have D:Hid (0<i→lessE (ck a (i - 1) 0) (ck a (i - 1) 1) (ck a (i - 1) 2) (ck a (i - 1) 3) (ck a i 0) (ck a i 1) (ck a i 2) (ck a i 3)=true):=fun _=>by rw [A.out];exact hless
       have hc:¬ (0:Int)≤cmpE (ck a m 0) (ck a m 1) (ck a m 2) (ck a m 3) (ck a i 0) (ck a i 1) (ck a i 2) (ck a i 3):=by
        have:=(Yd (ck a m 0) (ck a m 1) (ck a m 2) (ck a m 3) (ck a i 0) (ck a i 1) (ck a i 2) (ck a i 3)).2 hless;omega
       clear hless;refine wk ?_;repeat (go_big_quiet_step ((go_at_call 93;exact Qm (Jj _ _ _ _ _ _ _ _ _))))
       refine wpQuiet_nil ?_;intro B t;obtain ⟨v,c⟩:=t;have hq:Bl k B:=c ▸ v.h;have y:=Hd (Qb (Qb o.out d.out) hq);have g:=Hd (Qb d.out hq);clear c v hq;go_wp2;go_roundg (n - (i+1))
       case measure=>omega
       case rel =>
        refine ⟨i+1,γ,rfl,σ,fun j Q=>?_,⟨Qa g.out l.out.1,Qa g.out l.out.2.1,Qa g.out l.out.2.2⟩,y.out⟩;by_cases ej:j=i
        ·subst ej;exact ⟨D.out,Or.inl F.out,z.out⟩
        ·exact J.out j γ
   ·by_cases k2:(ck a i 4)=2
    ·have R:((ck a i 4) != 1)=true:=by simpa using k1
     have a6:((ck a i 4) != 2)=false:=by simpa using k2
     have F:=Hd k2;clear k1 k2
     cases g1:decide (cnt L (ck a i 0) (ck a i 1) (ck a i 2) (ck a i 3)=2)
     ·go_wp2_with (go_at_call 92;refine (C.out _ _ _ _ _ (Qc o.out)).mono ?_;rintro e5 k ⟨rfl,b⟩;have f:Bl wr k:=Qb β1 b;have d:=Hd f;have t0:At k wr.heap.size 0 (I (ck a i 0)):=Qa b ζ;have t1:At k wr.heap.size 1 (I (ck a i 1)):=Qa b ζ;have t2:At k wr.heap.size 2 (I (ck a i 2)):=Qa b ζ;have t3:At k wr.heap.size 3 (I (ck a i 3)):=Qa b ζ;have z5:=Bt t0;have z6:H<k.heap.size:=Nl X f.size;have u:=Hd (x.out.kept (Qb o.out f));clear b f)
      go_ret;first | exact ⟨false,rfl,⟨fun h=>Bool.noConfusion h,fun h=>absurd (h i h1).2.2 (by simpa using g1)⟩,Qb o.out d.out⟩ | exact Or.inl ⟨rfl,fun h=>absurd (h i h1).2.2 (by simpa using g1),Qb o.out d.out⟩
     ·have z:Hid (cnt L (ck a i 0) (ck a i 1) (ck a i 2) (ck a i 3)=2):=by show _=_;simpa using g1
      go_wp2_with (go_at_call 92;refine (C.out _ _ _ _ _ (Qc o.out)).mono ?_;rintro e5 k ⟨rfl,b⟩;have f:Bl wr k:=Qb β1 b;have d:=Hd f;have t0:At k wr.heap.size 0 (I (ck a i 0)):=Qa b ζ;have t1:At k wr.heap.size 1 (I (ck a i 1)):=Qa b ζ;have t2:At k wr.heap.size 2 (I (ck a i 2)):=Qa b ζ;have t3:At k wr.heap.size 3 (I (ck a i 3)):=Qa b ζ;have z5:=Bt t0;have z6:H<k.heap.size:=Nl X f.size;have u:=Hd (x.out.kept (Qb o.out f));clear b f)
      clear x;obtain ⟨kc,kn⟩:=kcn k;by_cases hi0:i=0
      ·have q0:¬ (0:Int)<(i:Int):=γ;have T:¬ 0<i:=γ;have G:=Hd hi0;clear hi0;refine wk ?_;repeat (go_big_quiet_step ((go_at_call 93;exact Qm (Jj _ _ _ _ _ _ _ _ _))))
       refine wpQuiet_nil ?_;intro B t;obtain ⟨v,c⟩:=t;have hq:Bl k B:=c ▸ v.h;have y:=Hd (Qb (Qb o.out d.out) hq);have g:=Hd (Qb d.out hq);clear c v hq;go_wp2;go_roundg (n - (i+1))
       case measure=>omega
       case rel =>
        refine ⟨i+1,γ,rfl,σ,fun j Q=>?_,⟨Qa g.out l.out.1,Qa g.out l.out.2.1,Qa g.out l.out.2.2⟩,y.out⟩;by_cases ej:j=i
        ·subst ej;exact ⟨fun h=>absurd h (by have:=G.out;omega),Or.inr F.out,z.out⟩
        ·exact J.out j γ
      ·have q0:(0:Int)<(i:Int):=γ;have T:0<i:=γ;obtain ⟨m,hm⟩:∃ m,i=m+1:=⟨i - 1,γ⟩;have a2:(i:Int) - 1=(m:Int):=γ;have m1:(m:Int)<(n:Int):=γ;have m0:(0:Int)≤(m:Int):=γ;obtain ⟨Y,Z,N,p0,p1,p2,p3,_⟩:=u.out m γ;simp only [Option.some.injEq,Addr.mk.injEq,and_true] at N;obtain ⟨rfl,rfl⟩:=N;have A:Hid (i - 1=m):=by show i - 1=m;omega
       clear hi0 hm
       cases hless:lessE (ck a m 0) (ck a m 1) (ck a m 2) (ck a m 3) (ck a i 0) (ck a i 1) (ck a i 2) (ck a i 3)
       ·have D:Hid (¬ CrOk L a i):=fun h=>by
         have:=h.1 T;rw [A.out,hless] at this;exact Bool.noConfusion this
        have hc:(0:Int)≤cmpE (ck a m 0) (ck a m 1) (ck a m 2) (ck a m 3) (ck a i 0) (ck a i 1) (ck a i 2) (ck a i 3):=by
         rcases Int.lt_or_le (cmpE (ck a m 0) (ck a m 1) (ck a m 2) (ck a m 3) (ck a i 0) (ck a i 1) (ck a i 2) (ck a i 3)) 0 with h | h
         ·rw [Yd,hless] at h;exact Bool.noConfusion h
         ·exact h
        clear hless;refine wk ?_;repeat (go_big_quiet_step ((go_at_call 93;exact Qm (Jj _ _ _ _ _ _ _ _ _))))
        refine wpQuiet_nil ?_;intro B t;obtain ⟨v,c⟩:=t;have hq:Bl k B:=c ▸ v.h;have y:=Hd (Qb (Qb o.out d.out) hq);have g:=Hd (Qb d.out hq);clear c v hq;go_wp2;go_ret;first | exact ⟨false,rfl,⟨fun h=>Bool.noConfusion h,fun h=>absurd (h i h1) D.out⟩,y.out⟩ | exact Or.inl ⟨rfl,fun h=>absurd (h i h1) D.out,y.out⟩
       ·have D:Hid (0<i→lessE (ck a (i - 1) 0) (ck a (i - 1) 1) (ck a (i - 1) 2) (ck a (i - 1) 3) (ck a i 0) (ck a i 1) (ck a i 2) (ck a i 3)=true):=fun _=>by rw [A.out];exact hless
        have hc:¬ (0:Int)≤cmpE (ck a m 0) (ck a m 1) (ck a m 2) (ck a m 3) (ck a i 0) (ck a i 1) (ck a i 2) (ck a i 3):=by
         have:=(Yd (ck a m 0) (ck a m 1) (ck a m 2) (ck a m 3) (ck a i 0) (ck a i 1) (ck a i 2) (ck a i 3)).2 hless;omega
        clear hless;refine wk ?_;repeat (go_big_quiet_step ((go_at_call 93;exact Qm (Jj _ _ _ _ _ _ _ _ _))))
        refine wpQuiet_nil ?_;intro B t;obtain ⟨v,c⟩:=t;have hq:Bl k B:=c ▸ v.h;have y:=Hd (Qb (Qb o.out d.out) hq);have g:=Hd (Qb d.out hq);clear c v hq;go_wp2;go_roundg (n - (i+1))
        case measure=>omega
        case rel =>
         refine ⟨i+1,γ,rfl,σ,fun j Q=>?_,⟨Qa g.out l.out.1,Qa g.out l.out.2.1,Qa g.out l.out.2.2⟩,y.out⟩;by_cases ej:j=i
         ·subst ej;exact ⟨D.out,Or.inr F.out,z.out⟩
         ·exact J.out j γ
    ·have R:((ck a i 4) != 1)=true:=by simpa using k1
     have a6:((ck a i 4) != 2)=true:=by simpa using k2
     have F:Hid (¬ ((ck a i 4)=1∨(ck a i 4)=2)):=by rintro (h | h) <;> contradiction
     clear k1 k2;go_wp2;go_ret;first | exact ⟨false,rfl,⟨fun h=>Bool.noConfusion h,fun h=>absurd (h i h1).2.1 F.out⟩,Qc o.out⟩ | exact Or.inl ⟨rfl,fun h=>absurd (h i h1).2.1 F.out,Qc o.out⟩
  ·have i1:¬ (i:Int)<(n:Int):=γ;go_wp2;go_ret;first | exact ⟨true,rfl,⟨fun _ j Q=>J.out j γ,fun _=>rfl⟩,o.out⟩ | exact Or.inr ⟨rfl,fun j Q=>J.out j γ,o.out⟩
def PK (w0 w:World) (base ra rk:Nat) (vt:Value) (L:List T3) (G:E4→List Int) (kd:E4→Option Value):Prop :=
 w.ownsRow base 44 3 vt L.length (flatV L)∧GP w base ra vt G∧(∃ ls c,EM w rk ls c∧Good ls c∧∀ e,lk ls e=kd e)∧(w0.heap.size≤ra∧ra<base∧w0.heap.size≤rk∧rk<base∧ra≠rk∧base≤w.heap.size∧w0.heap.size≤base)∧Bl w0 w
theorem PP.pk {g:World} {base pb d:Nat} {f:Value} {G:E4→List Int} (h:PP g w base pb b d f L G):PK g w base b d f L G (fun _=>none):=by
 obtain ⟨h1,h2,h3,⟨c,h4,a⟩,⟨a1,l,a3,a4,a5,i,j,k⟩,h6⟩:=h;exact ⟨h2,h3,⟨[],c,h4,a,fun e=>rfl⟩,⟨a3,a4,a5,i,j,k,γ⟩,h6⟩
theorem PK.kept {g w':World} {base d e:Nat} {f:Value} {G:E4→List Int} {kd:E4→Option Value} (h:PK g w base d e f L G kd) (hb:Bl w w'):PK g w' base d e f L G kd:=by
 obtain ⟨h2,h3,⟨ls,c,h4,a,b⟩,⟨a1,i,a3,a4,a5,j,k⟩,h6⟩:=h;exact ⟨Qh h2 hb,h3.kept hb,⟨ls,c,h4.grown (Qv hb) ν,a,b⟩,⟨a1,i,a3,a4,a5,Nt j hb.size,k⟩,Qb h6 hb⟩
theorem PK.base {f e:World} {base c:Nat} {d:Value} {G:E4→List Int} {kd:E4→Option Value} (h:PK e w base b c d L G kd) (a:Bl f e):PK f w base b c d L G kd:=by
 obtain ⟨h2,h3,h4,⟨a1,g,a3,a4,a5,i,j⟩,h6⟩:=h;have:=a.size;exact ⟨h2,h3,h4,⟨γ,g,γ,a4,a5,i,γ⟩,Qb a h6⟩
theorem PK.pa {p:World} {base j o k:Nat} {f:Option Addr} {kd:E4→Option Value} (h:PK p w base j o (.slice f L.length k) L (gix L) kd):PA w f j L:=by
 obtain ⟨h2,⟨ls,c,b1,b2,b3,b4,r⟩,h4⟩:=h;refine ⟨?_,fun e=>?_⟩
 ·obtain ⟨a,d,e,m⟩:=Yt h2;simp only [Value.slice.injEq] at e;(try simp only [At,I,Fn,Az,Ad]);rw [e.1]
  exact m
 ·cases hl:lk ls e with
  | none =>
   refine ⟨none,0,by (try simp only [At,I,Fn,Az,Ad]);rw [b3 e hl];intro i hi;simp at hi,fun q hb=>?_⟩;have:=lookup27 Tryz.underlying62 zero70 (b1.grown (Qv hb) ν) b2 e;(try simp only [At,I,Fn,Az,Ad] at this);rw [hl] at this
   (try simp only [At,I,Fn,Az,Ad]);rw [b3 e hl]
   exact this
  | some v =>
   obtain ⟨d1,d2,d3⟩:=b4 e v hl
   obtain ⟨b,off,d,n,hr⟩:∃ b off d,v=.slice (some ⟨b,off,none⟩) (gix L e).length d∧Row w (some ⟨b,off,none⟩) (gix L e):=by
    rcases d1.2 with ⟨rfl,h0⟩ | ⟨g,d,l,rfl,_⟩
    ·exact absurd (List.length_eq_zero_iff.1 h0) d2
    ·refine ⟨g,0,d,rfl,fun i hi=>⟨g,0,rfl, ?_⟩⟩;have:=d1.cellAt i γ;(try simp only [At,I]);rw [Nat.zero_add,this]
     simp [hi]
   refine ⟨some ⟨b,off,none⟩,d,hr,fun q hb=>?_⟩;have:=lookup27 Tryz.underlying62 zero70 (b1.grown (Qv hb) ν) b2 e;(try simp only [At,I,Fn,Az,Ad] at this);rw [hl,n] at this
   exact this
theorem PK.grown {j w':World} {base f i r:Nat} {p:Value} {G:E4→List Int} {kd:E4→Option Value} (h:PK j w base f i p L G kd) (hg:w.grownBy w' (some r)) (hr:j.heap.size≤r) (h1:r≠f) (h2:r≠i) (h3:r<base):PK j w' base f i p L G kd:=by
 obtain ⟨m,⟨ls,z,b1,b2,b3,b4,y⟩,⟨a,c,D,b,d⟩,⟨a1,t,a3,a4,a5,u,x⟩,o⟩:=h
 have l:∀ {v:Value} {n:Nat} {e:TypeId} {s:Nat} {q:List Value},w.ownsRow base e s v n q→v.ownBlock=none∨v.ownBlock≠some r:=fun {v n e s q} C=>by
  cases hu:v.ownBlock with
  | none=>exact Or.inl rfl
  | some g =>
   refine Or.inr (fun e1=>?_);have:=(C.lt g hu).1;simp at e1;omega
 refine ⟨m.kept hg (l m),⟨ls,z,b1.grown hg (fun e=>h1 (by simpa using e.symm)),b2,b3,fun e v A=>?_,y⟩,⟨a,c,D.grown hg (fun e=>h2 (by simpa using e.symm)),b,d⟩,⟨a1,t,a3,a4,a5,Nt u hg.size,x⟩,o.grown hg o.size (fun k B=>by simp at B;omega)⟩;obtain ⟨d1,d2,d3⟩:=b4 e v A;exact ⟨d1.kept hg (l d1),d2,d3⟩
theorem PK.update {t:World} {base q:Nat} {r:Value} {G:E4→List Int} {kd:E4→Option Value} (h:PK t w base q b r L G kd) (e:E4) (v:Value) :
  ∃ W',(Instr.mapUpdate 63 (.map (some b)) (ek e) v).run Tryz.prog w=.ok () W'∧w.grownBy W' (some b)∧PK t W' base q b r L G (fun j=>if j=e then some v else kd j):=by
 obtain ⟨m,⟨ls,B,b1,b2,b3,b4,A⟩,⟨F,c,o,d,f⟩,⟨a1,x,a3,a4,a5,y,z⟩,p⟩:=h;obtain ⟨a,i,r1,r2,r3,_⟩:=update27 Tryz.underlying63 o d e v;have hb:=o;unfold EM at hb;have hg:=Yc hb (.map (a.map toE).toArray i)
 have l:∀ {v:Value} {n:Nat} {e:TypeId} {s:Nat} {u:List Value},w.ownsRow base e s v n u→v.ownBlock=none∨v.ownBlock≠some b:=fun {v n e s u} E=>by
  cases hu:v.ownBlock with
  | none=>exact Or.inl rfl
  | some g =>
   refine Or.inr (fun e1=>?_);have:=(E.lt g hu).1;simp at e1;omega
 refine ⟨_,r1,hg,m.kept hg (l m),⟨ls,B,b1.grown hg (fun e=>a5 (by simpa using e)),b2,b3,fun e v C=>?_,A⟩,⟨a,i,heap_setBlock_same hb _,r2,fun j=>by rw [r3 j,f j]⟩,⟨a1,x,a3,a4,a5,Nt y hg.size,z⟩,p.grown hg p.size (fun k D=>by simp at D;omega)⟩;obtain ⟨d1,d2,d3⟩:=b4 e v C;exact ⟨d1.kept hg (l d1),d2,d3⟩
def kf (ks:List Int):Nat→Int×Int×Int×Int→Option Value
 | 0,_=>none
 | i+1,e=>if e=(ck ks i 0,ck ks i 1,ck ks i 2,ck ks i 3) then some (I (ck ks i 4)) else kf ks i e
theorem lay_nojoin (W H b off j n d:Nat) (y:Option Addr) (zs N:List Int) (w:World) (hr:Row w (Ad b off) zs) (K:1≤W∧W≤8) (V:1≤H∧H≤8) (hl:zs.length=W*H) (M:maskB zs=true) (Z:Row w y N) (hn:N.length=n*5) (a2:n≤3518437208883) (hs:Steps w) (hJ:¬ Joined (ty zs W H)) :
  Rt 20 #[.agg #[I (W:Int),I (H:Int),.slice (Ad b off) zs.length j,.slice y n d]] w (.tuple #[.agg #[SN,.map none,.map none],.bool false]):=by
 have Y:cellsB (W:Int) (H:Int) zs=true:=by
  have e1:sideB (W:Int)=true:=γ3;have e2:sideB (H:Int)=true:=γ3;have e3:(zs.length:Int)=(W:Int)*(H:Int):=by rw [hl];simp
  simp only [cellsB,e1,e2,decide_eq_true e3,M];rfl
 have A:sideB (W:Int)=true:=γ3;have z:sideB (H:Int)=true:=γ3;have J:(zs.length:Int)=(W:Int)*(H:Int):=by rw [hl];simp
 have P:Hid (∀ a:World,Bl w a→Cl 45 #[.agg #[I (W:Int),I (H:Int),.slice (Ad b off) zs.length j,.slice y n d]] a fun e w'=>e=.returned (.bool true)∧∃ o,w'=a.alloc o):=fun a h=>M ▸ Zm W H _ j zs _ a A z (hr.kept h) J;have O:Hid (∀ a:World,Cl 44 #[I (W:Int)] a fun e w'=>e=.returned (.bool true)∧w'=a):=fun a=>A ▸ Xe (W:Int) a;have B:Hid (∀ a:World,Cl 44 #[I (H:Int)] a fun e w'=>e=.returned (.bool true)∧w'=a):=fun a=>z ▸ Xe (H:Int) a;have C:=Hd (fun (a:World) h=>of_any W H b off j zs a (hs.kept h) (hr.kept h) K V hl M);have u:(ty zs W H).length≤300:=by have:=Vi zs W H K.2;omega
 have D:Hid (∀ (a:World) (m:Option Addr) (s l t:Nat),Bl w a→PA a m l (ty zs W H)→Cl 47 #[.agg #[.slice m (ty zs W H).length s,.map (some l),.map (some t)]] a fun e w'=>∃ bb:Bool,e=.returned (.bool bb)∧(bb=true↔Joined (ty zs W H))∧Bl a w'):=fun a m s l t h hp=>Vo a s l t m _ (hs.kept h) hp u (Yf zs W H) (ty_bd K.2 V.2);have Q:Hid (∀ (a:World) (m:Option Addr) (s l t:Nat),Bl w a→PA a m l (ty zs W H)→Cl 48 #[.agg #[.slice m (ty zs W H).length s,.map (some l),.map (some t)],.slice y n d] a fun e w'=>∃ bb:Bool,e=.returned (.bool bb)∧(bb=true↔∀ i,i<n→CrOk (ty zs W H) N i)∧Bl a w'):=fun a m s l t h hp=>Yi a s l t n d m y _ N hp (Z.kept h) hn a2;have a7:=Hd (Vx Z hn);clear hr hl M K V Z hn hs Y A z J;obtain ⟨L,X⟩:∃ L,L=ty zs W H:=⟨_,rfl⟩;rw [← X] at C D Q u;rw [← X] at hJ;clear X;go_enter Tryz.func20,Tryz.ntmps20
 go_wp2_with (first
  | (go_at_call 44;first | (refine (O.out _).mono ?_;rintro e w9 ⟨rfl,q⟩;have r:=q.symm;clear q;subst r) | (refine (B.out _).mono ?_;rintro e w9 ⟨rfl,q⟩;have r:=q.symm;clear q;subst r))
  | (go_at_call 45;refine (P.out _ Ψ).mono ?_;rintro e w9 ⟨rfl,o9,rfl⟩)
  | (go_at_call 46;refine (C.out _ (by with_reducible exact Qc β2)).mono ?_;rintro e x ⟨m,s,base,pb,l,t,rfl,F⟩;have g:=Hd (F.pk.base β1);have s0:At x w.heap.size 0 (I (W:Int)):=Qa g.out.2.2.2.2 ζ;have s1:At x w.heap.size 1 (I (H:Int)):=Qa g.out.2.2.2.2 ζ;have s2:At x w.heap.size 2 (.slice (some ⟨b,off,none⟩) zs.length j):=Qa g.out.2.2.2.2 ζ;have s3:At x w.heap.size 3 (.slice y n d):=Qa g.out.2.2.2.2 ζ;have z3:=Bt s0;have af:w.heap.size+1<x.heap.size:=Nl ν g.out.2.2.2.2.size;clear F)
  | (go_at_call 47;refine (D.out _ _ s l t (Qc (Qb β2 g.out.2.2.2.2)) (g.out.pa.kept β1)).mono ?_;rintro e k ⟨E,rfl,G,f⟩;obtain rfl:E=false:=(by cases E with | false=>rfl | true=>exact absurd (G.1 rfl) hJ);have c:=H2 (g.out.kept (Qb β1 f)) (Qb β1 f);have r0:At k w.heap.size 0 (I (W:Int)):=Qa c.out.2 s0;have r1:At k w.heap.size 1 (I (H:Int)):=Qa c.out.2 s1;have r2:At k w.heap.size 2 (.slice (some ⟨b,off,none⟩) zs.length j):=Qa c.out.2 s2;have r3:At k w.heap.size 3 (.slice y n d):=Qa c.out.2 s3;have a6:At k x.heap.size 0 (.slice m L.length s):=Qa f ζ;have ac:At k x.heap.size 1 (.map (some l)):=Qa f ζ;have ae:At k x.heap.size 2 (.map (some t)):=Qa f ζ;have z4:=Bt r0;have ag:=Bt a6;have R:At k (w.heap.size+1) 0 SN:=Qa c.out.1.2.2.2.2 ζ;have T:At k (w.heap.size+1) 1 (.map none):=Qa c.out.1.2.2.2.2 ζ;have U:At k (w.heap.size+1) 2 (.map none):=Qa c.out.1.2.2.2.2 ζ;have a8:Fn k (w.heap.size+1) 0:=(c.out.1.2.2.2.2.frozen (p:=⟨w.heap.size+1,0,none⟩) ν).trans ζ;have aa:Fn k (w.heap.size+1) 1:=(c.out.1.2.2.2.2.frozen (p:=⟨w.heap.size+1,1,none⟩) ν).trans ζ;have ab:Fn k (w.heap.size+1) 2:=(c.out.1.2.2.2.2.frozen (p:=⟨w.heap.size+1,2,none⟩) ν).trans ζ;clear G f))
 refine bodyPost_ret (v:=.tuple #[.agg #[SN,.map none,.map none],.bool false]) ?_ rfl ⟨rfl, ?_⟩
 ·simp [results,Tryz.results20,go_sem,R,T,U]
 ·have hq:=Qb (Qc (Qc (Qd w))) c.out.1.2.2.2.2;exact ((hq.setCell (p:=⟨w.heap.size+1,0,none⟩) ν _).setCell (p:=⟨w.heap.size+1,1,none⟩) ν _).setCell (p:=⟨w.heap.size+1,2,none⟩) ν _
theorem lay_nocrease (W H b off l n d:Nat) (z:Option Addr) (zs Q:List Int) (w:World) (hr:Row w (Ad b off) zs) (T:1≤W∧W≤8) (hH:1≤H∧H≤8) (hl:zs.length=W*H) (U:maskB zs=true) (hk:Row w z Q) (hn:Q.length=n*5) (a8:n≤3518437208883) (hs:Steps w) (hJ:Joined (ty zs W H)) (hC:¬ ∀ i,i<n→CrOk (ty zs W H) Q i) :
  Rt 20 #[.agg #[I (W:Int),I (H:Int),.slice (Ad b off) zs.length l,.slice z n d]] w (.tuple #[.agg #[SN,.map none,.map none],.bool false]):=by
 have a7:cellsB (W:Int) (H:Int) zs=true:=by
  have e1:sideB (W:Int)=true:=γ3;have e2:sideB (H:Int)=true:=γ3;have e3:(zs.length:Int)=(W:Int)*(H:Int):=by rw [hl];simp
  simp only [cellsB,e1,e2,decide_eq_true e3,U];rfl
 have C:sideB (W:Int)=true:=γ3;have B:sideB (H:Int)=true:=γ3;have P:(zs.length:Int)=(W:Int)*(H:Int):=by rw [hl];simp
 have X:Hid (∀ a:World,Bl w a→Cl 45 #[.agg #[I (W:Int),I (H:Int),.slice (Ad b off) zs.length l,.slice z n d]] a fun e w'=>e=.returned (.bool true)∧∃ o,w'=a.alloc o):=fun a h=>U ▸ Zm W H _ l zs _ a C B (hr.kept h) P;have V:Hid (∀ a:World,Cl 44 #[I (W:Int)] a fun e w'=>e=.returned (.bool true)∧w'=a):=fun a=>C ▸ Xe (W:Int) a;have E:Hid (∀ a:World,Cl 44 #[I (H:Int)] a fun e w'=>e=.returned (.bool true)∧w'=a):=fun a=>B ▸ Xe (H:Int) a;have F:=Hd (fun (a:World) h=>of_any W H b off l zs a (hs.kept h) (hr.kept h) T hH hl U);have A:(ty zs W H).length≤300:=by have:=Vi zs W H T.2;omega
 have G:Hid (∀ (a:World) (r:Option Addr) (s m t:Nat),Bl w a→PA a r m (ty zs W H)→Cl 47 #[.agg #[.slice r (ty zs W H).length s,.map (some m),.map (some t)]] a fun e w'=>∃ bb:Bool,e=.returned (.bool bb)∧(bb=true↔Joined (ty zs W H))∧Bl a w'):=fun a r s m t h hp=>Vo a s m t r _ (hs.kept h) hp A (Yf zs W H) (ty_bd T.2 hH.2);have J:Hid (∀ (a:World) (r:Option Addr) (s m t:Nat),Bl w a→PA a r m (ty zs W H)→Cl 48 #[.agg #[.slice r (ty zs W H).length s,.map (some m),.map (some t)],.slice z n d] a fun e w'=>∃ bb:Bool,e=.returned (.bool bb)∧(bb=true↔∀ i,i<n→CrOk (ty zs W H) Q i)∧Bl a w'):=fun a r s m t h hp=>Yi a s m t n d r z _ Q hp (hk.kept h) hn a8;have ac:=Hd (Vx hk hn);clear hr hl U T hH hk hn hs a7 C B P;obtain ⟨L,hL⟩:∃ L,L=ty zs W H:=⟨_,rfl⟩;rw [← hL] at F G J A;rw [← hL] at hJ hC;have HJ:=Hd hJ;have HC:=Hd hC;clear hL hJ hC;go_enter Tryz.func20,Tryz.ntmps20
 go_wp2_with (first
  | (go_at_call 44;first | (refine (V.out _).mono ?_;rintro e w9 ⟨rfl,u⟩;have x:=u.symm;clear u;subst x) | (refine (E.out _).mono ?_;rintro e w9 ⟨rfl,u⟩;have x:=u.symm;clear u;subst x))
  | (go_at_call 45;refine (X.out _ Ψ).mono ?_;rintro e w9 ⟨rfl,o9,rfl⟩)
  | (go_at_call 46;refine (F.out _ (by with_reducible exact Qc β2)).mono ?_;rintro e y ⟨r,s,base,pb,m,t,rfl,M⟩;have g:=Hd (M.pk.base β1);have s0:At y w.heap.size 0 (I (W:Int)):=Qa g.out.2.2.2.2 ζ;have s1:At y w.heap.size 1 (I (H:Int)):=Qa g.out.2.2.2.2 ζ;have s2:At y w.heap.size 2 (.slice (some ⟨b,off,none⟩) zs.length l):=Qa g.out.2.2.2.2 ζ;have s3:At y w.heap.size 3 (.slice z n d):=Qa g.out.2.2.2.2 ζ;have z3:=Bt s0;have ak:w.heap.size+1<y.heap.size:=Nl ν g.out.2.2.2.2.size;clear M)
  | (go_at_call 47;refine (G.out _ _ s m t (Qc (Qb β2 g.out.2.2.2.2)) (g.out.pa.kept β1)).mono ?_;rintro e D ⟨Y,rfl,N,f⟩;obtain rfl:Y=true:=N.2 HJ.out;have j:=H2 (g.out.kept (Qb β1 f)) (Qb β1 f);have r0:At D w.heap.size 0 (I (W:Int)):=Qa j.out.2 s0;have r1:At D w.heap.size 1 (I (H:Int)):=Qa j.out.2 s1;have r2:At D w.heap.size 2 (.slice (some ⟨b,off,none⟩) zs.length l):=Qa j.out.2 s2;have r3:At D w.heap.size 3 (.slice z n d):=Qa j.out.2 s3;have R:At D y.heap.size 0 (.slice r L.length s):=Qa f ζ;have aa:At D y.heap.size 1 (.map (some m)):=Qa f ζ;have ab:At D y.heap.size 2 (.map (some t)):=Qa f ζ;have z4:=Bt r0;have am:=Bt R;clear N f)
  | (go_at_call 48;refine (J.out _ _ s m t (Qb β2 j.out.1.2.2.2.2) j.out.1.pa).mono ?_;rintro e q ⟨K,rfl,O,c⟩;obtain rfl:K=false:=(by cases K with | false=>rfl | true=>exact absurd (O.1 rfl) HC.out);have k:=Hd (j.out.1.kept c);have v0:At q w.heap.size 0 (I (W:Int)):=Qa c r0;have v1:At q w.heap.size 1 (I (H:Int)):=Qa c r1;have v2:At q w.heap.size 2 (.slice (some ⟨b,off,none⟩) zs.length l):=Qa c r2;have v3:At q w.heap.size 3 (.slice z n d):=Qa c r3;have ah:At q y.heap.size 0 (.slice r L.length s):=Qa c R;have ai:At q y.heap.size 1 (.map (some m)):=Qa c aa;have aj:At q y.heap.size 2 (.map (some t)):=Qa c ab;have z5:=Bt v0;have Z:At q (w.heap.size+1) 0 SN:=Qa k.out.2.2.2.2 ζ;have a2:At q (w.heap.size+1) 1 (.map none):=Qa k.out.2.2.2.2 ζ;have a6:At q (w.heap.size+1) 2 (.map none):=Qa k.out.2.2.2.2 ζ;have ae:Fn q (w.heap.size+1) 0:=(k.out.2.2.2.2.frozen (p:=⟨w.heap.size+1,0,none⟩) ν).trans ζ;have af:Fn q (w.heap.size+1) 1:=(k.out.2.2.2.2.frozen (p:=⟨w.heap.size+1,1,none⟩) ν).trans ζ;have ag:Fn q (w.heap.size+1) 2:=(k.out.2.2.2.2.frozen (p:=⟨w.heap.size+1,2,none⟩) ν).trans ζ;clear O c))
 refine bodyPost_ret (v:=.tuple #[.agg #[SN,.map none,.map none],.bool false]) ?_ rfl ⟨rfl, ?_⟩
 ·simp [results,Tryz.results20,go_sem,Z,a2,a6]
 ·have hq:=Qb (Qc (Qc (Qd w))) k.out.2.2.2.2;exact ((hq.setCell (p:=⟨w.heap.size+1,0,none⟩) ν _).setCell (p:=⟨w.heap.size+1,1,none⟩) ν _).setCell (p:=⟨w.heap.size+1,2,none⟩) ν _
end Go.Proofs.YtbjmnlefkbhbdaaGreatDoor
