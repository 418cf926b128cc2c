/- A part of it. -/
import Derived.Test.YtbjmnlefkbhbdaaGreatDoorQlbd
set_option maxRecDepth 100000
set_option maxHeartbeats 40000000
namespace Go.Proofs.YtbjmnlefkbhbdaaGreatDoor
open Go.RowKit Go.ChangeMaps
variable {L:List T3} {V a w w':World} {C H W b base g i n:Nat} {B c v:Int} {d e f v3 v4 v5:Value} {a0 a3 a4 a5 c0:Option Addr} {M:Nat→M6} {t:T3} {p s:Nat→Int} {m:M6}
theorem own_pos {v:Value} {R:List Nat} (h:w.ownsRow base 3 1 v R.length (nuV R)) (h0:0<R.length):∃ g a,v=.slice (some ⟨g,0,none⟩) R.length a∧base≤g∧R.length≤a∧NW w g R:=by
 rcases h.2 with ⟨_,h1⟩ | ⟨g,a,b,rfl,h2,h3,h4,_,_,_⟩
 ·omega
 ·refine ⟨g,a,rfl,h2,h4,fun i hi=>⟨?_,by simp [World.frozen?,h3]⟩⟩;have:=h.cellAt i γ;(try simp only [At,I]);rw [this]
  simp [nuV,hi]
def fS (f:Nat→Bool) (P:List T3) (ax ay ak:Int) (i:Nat):Bool:=f i && sameT (P.getD i (0,0,0)).1 (P.getD i (0,0,0)).2.1 (P.getD i (0,0,0)).2.2 ax ay ak
theorem whL_lt (f:Nat→Bool) (N:Nat):∀ x∈whL f N,x<N:=by
 intro x a;unfold whL at a;rw [List.mem_filter,List.mem_range] at a;exact a.1
theorem num_take {l:Nat} {R:List Nat} (h:NW w g R):NumR w (Az g) (R.take l):=by
 intro j a;have hl:(R.take l).length=min l R.length:=List.length_take;refine ⟨g,rfl, ?_⟩;have:=(h j γ).1;rw [List.getElem_take];exact this
theorem own_ltw {o:Obj} (h:(w.alloc o).heap.size≤g):w.heap.size<g:=by
 have e:(w.alloc o).heap.size=w.heap.size+1:=Array.size_push _;omega
theorem held_walk (a k m mv:Value) (ta pa:Option Addr) (N tc pc O l:Nat) (h:Nat→Int) (wy c sd V X U:Int) (P:Bool) (R:List Nat) (w:World) (_hN:N≤300) (hl:0<l) (hR:∀ x∈R,x<N) (Z:R.length≤300)
  (hS:SortsN w N (ABv O) h)
  (D:∀ W:World,W=(w.alloc (.cells #[.slice ta N tc,a,k,m,.slice pa N pc,ABv O,I wy,I c,I sd,.bool P,I (l:Int),I V,I X,I U,mv] 105))→Cl 114 #[.agg #[.slice ta N tc,a,k,m,.slice pa N pc,ABv O,I wy,I c,I sd,.bool P,I (l:Int),I V,I X,I U,mv],.func (.func 116) #[] #[.pointer (Az w.heap.size)]] W fun e w'=>∃ v,e=.returned v∧w'.ownsRow W.heap.size 3 1 v R.length (nuV R)∧Bl W w') :
  Cl 75 #[.agg #[.slice ta N tc,a,k,m,.slice pa N pc,ABv O,I wy,I c,I sd,.bool P,I (l:Int),I V,I X,I U,mv]] w fun e w'=>∃ v b,e=.returned (.tuple #[v,.bool b])∧(b=true→∃ (aa:Option Addr) (i:Nat) (hl:List Nat),v=.slice aa hl.length i∧NumR w' aa hl∧hl.length≤300∧∀ x∈hl,x<N)∧Bl w w':=by
 have u:=Hd D;have HS:=Hd hS;have HR:=Hd hR;obtain ⟨n,hn⟩:∃ n,n=R.length:=⟨_,rfl⟩;have z:=Hd hn
 have HB:Hid (HB15 (w.alloc (.cells #[.slice ta N tc,a,k,m,.slice pa N pc,ABv O,I wy,I c,I sd,.bool P,I (l:Int),I V,I X,I U,mv] 105)) w.heap.size (.slice ta N tc) a k m (.slice pa N pc) (ABv O) (I wy) (I c) (I sd) (.bool P) (I (l:Int)) (I V) (I X) (I U) mv):=by
  refine ⟨?_, ?_, ?_, ?_, ?_, ?_, ?_, ?_, ?_, ?_, ?_, ?_, ?_, ?_, ?_⟩ <;> simp [go_sem]
 clear D hS hR;have q0:¬ (l:Int)=0:=γ;have q1:((l:Int) == 0)=false:=by rw [beq_eq_false_iff_ne];omega
 by_cases hlt:n<l
 ·have q2:(n:Int)<(l:Int):=γ;rw [← hn] at Z;clear hn;go_enter Tryz.func75,Tryz.ntmps75
  go_wp2_with (first
   | (go_at_call 114;go_must (refine (u.out _ rfl).mono ?_);go_must (rintro e w5 ⟨v,rfl,E,hb⟩);obtain ⟨av,B,rfl,_⟩:=Qt E;rw [← z.out];have f:=Hd (Qb β1 hb);obtain ⟨F,x1,x2,x3,G,H,J,K,L,M,o,p,q,s,t⟩:=HB.out.kept hb;clear E hb)
   | fail)
  exact bodyPost_ret (v:=.tuple #[SN,.bool false]) (by simp [results,Tryz.results75,go_sem]) rfl ⟨_,_,rfl,(by intro e;cases e),f.out⟩
 ·have q2:¬ (n:Int)<(l:Int):=γ;have C:0<R.length:=γ
  have CS:Hid (∀ (W:World) (g i:Nat),Bl w W→w.heap.size<g→NW W g R→Cl 99 #[.slice (Az g) n i,.func (.func 100) #[ABv O] #[]] W fun e w'=>e=.returned (.tuple #[])∧∃ j:List Nat,j.Perm R∧NW w' g j∧W.grownBy w' (some g)):=by
   intro W g i hW hg d;have Y:=HS.out W g i R hW γ (by intro e;rw [e] at C;simp at C) Z HR.out d;rw [← hn] at Y
   exact Y.mono fun e w' A=>by
    obtain ⟨he,j,hp,_,d,hg⟩:=A;exact ⟨he,j,hp,d,hg⟩
  clear hn
  cases P with
  | false =>
   go_enter Tryz.func75,Tryz.ntmps75
   go_wp2_with (first
    | (go_at_call 114;go_must (refine (u.out _ rfl).mono ?_);go_must (rintro e w5 ⟨v,rfl,E,hb⟩);go_must (obtain ⟨g,B,rfl,hg,hc,d⟩:=own_pos E C);go_must (rw [← z.out] at hc);go_must (rw [← z.out]);go_must (have f:=H3 (Qb β1 hb) (own_ltw hg) d);obtain ⟨F,x1,x2,x3,G,H,J,K,L,M,o,p,q,s,t⟩:=HB.out.kept hb;clear E hb hg d)
    | (go_at_call 99;go_must (refine (CS.out _ g B f.out.1 f.out.2.1 f.out.2.2).mono ?_);go_must (rintro e w6 ⟨rfl,j,hp,d,hg⟩);go_must (have y:Hid (Bl w w6∧w.heap.size<g∧NW w6 g j∧j.length=n∧∀ x∈j,x<N):=⟨f.out.1.grown hg f.out.1.size (fun r e=>by have e2:=Option.some.inj e;have:=f.out.2.1;omega),f.out.2.1,d,hp.length_eq.trans z.out.symm,fun x A=>HR.out x (hp.mem_iff.mp A)⟩);go_must (obtain ⟨F,x1,x2,x3,G,H,J,K,L,M,o,p,q,s,t⟩:=HB15.grown ⟨F,x1,x2,x3,G,H,J,K,L,M,o,p,q,s,t⟩ hg (by intro e;have e2:=Option.some.inj e;have:=f.out.2.1;omega));clear hp d hg)
    | fail)
   exact bodyPost_ret (v:=.tuple #[.slice (Az g) l B,.bool true]) (by simp [results,Tryz.results75,go_sem]) rfl ⟨_,_,rfl,(fun _=>by
    obtain ⟨_,_,h3,h4,h5⟩:=y.out;have e9:(j.take l).length=l:=by rw [List.length_take];omega
    exact ⟨Az g,B,j.take l,by rw [e9],num_take h3,by rw [List.length_take];have:=z.out;omega,fun x A=>h5 x (List.mem_of_mem_take A)⟩),y.out.1⟩
  | true =>
   have CR:Hid (∀ (W:World) (i:Nat) (Q:List Nat),∀ {g:Nat},NW W g Q→Q.length=n→Cl 117 #[.slice (Az g) n i] W fun e w'=>(∃ v,e=.returned v)∧(∃ j:List Nat,j.length=n∧(∀ x∈j,x∈Q)∧NW w' g j)∧W.grownBy w' (some g)):=by
    intro W i Q g d hq;have Y:=reverse_in g i Q W d (by have:=z.out;omega) (by have:=z.out;omega);rw [hq] at Y;exact Y
   go_enter Tryz.func75,Tryz.ntmps75
   go_wp2_with (first
    | (go_at_call 114;go_must (refine (u.out _ rfl).mono ?_);go_must (rintro e w5 ⟨v,rfl,E,hb⟩);go_must (obtain ⟨g,B,rfl,hg,hc,d⟩:=own_pos E C);go_must (rw [← z.out] at hc);go_must (rw [← z.out]);go_must (have f:=H3 (Qb β1 hb) (own_ltw hg) d);obtain ⟨F,x1,x2,x3,G,H,J,K,L,M,o,p,q,s,t⟩:=HB.out.kept hb;clear E hb hg d)
    | (go_at_call 99;go_must (refine (CS.out _ g B f.out.1 f.out.2.1 f.out.2.2).mono ?_);go_must (rintro e w6 ⟨rfl,j,hp,d,hg⟩);go_must (have y:Hid (Bl w w6∧w.heap.size<g∧NW w6 g j∧j.length=n∧∀ x∈j,x<N):=⟨f.out.1.grown hg f.out.1.size (fun r e=>by have e2:=Option.some.inj e;have:=f.out.2.1;omega),f.out.2.1,d,hp.length_eq.trans z.out.symm,fun x A=>HR.out x (hp.mem_iff.mp A)⟩);go_must (obtain ⟨F,x1,x2,x3,G,H,J,K,L,M,o,p,q,s,t⟩:=HB15.grown ⟨F,x1,x2,x3,G,H,J,K,L,M,o,p,q,s,t⟩ hg (by intro e;have e2:=Option.some.inj e;have:=f.out.2.1;omega));clear hp d hg)
    | (go_at_call 117;go_must (refine (CR.out _ B _ y.out.2.2.1 y.out.2.2.2.1).mono ?_);go_must (rintro e w7 ⟨⟨v7,rfl⟩,⟨T,hp,hm,d⟩,hg⟩);go_must (have H7:Hid (Bl w w7∧w.heap.size<g∧NW w7 g T∧T.length=n∧∀ x∈T,x<N):=⟨y.out.1.grown hg y.out.1.size (fun r e=>by have e2:=Option.some.inj e;have:=y.out.2.1;omega),y.out.2.1,d,hp,fun x A=>y.out.2.2.2.2 x (hm x A)⟩);go_must (obtain ⟨F,x1,x2,x3,G,H,J,K,L,M,o,p,q,s,t⟩:=HB15.grown ⟨F,x1,x2,x3,G,H,J,K,L,M,o,p,q,s,t⟩ hg (by intro e;have e2:=Option.some.inj e;have:=y.out.2.1;omega));clear hp hm d hg)
    | fail)
   exact bodyPost_ret (v:=.tuple #[.slice (Az g) l B,.bool true]) (by simp [results,Tryz.results75,go_sem]) rfl ⟨_,_,rfl,(fun _=>by
    obtain ⟨_,_,h3,h4,h5⟩:=H7.out;have e9:(T.take l).length=l:=by rw [List.length_take];omega
    exact ⟨Az g,B,T.take l,by rw [e9],num_take h3,by rw [List.length_take];have:=z.out;omega,fun x A=>h5 x (List.mem_of_mem_take A)⟩),H7.out.1⟩
theorem hb_box (w:World) (f0 f1 f2 f3 f4 e f6 f g h a b c d f14:Value):HB15 (w.alloc (.cells #[f0,f1,f2,f3,f4,e,f6,f,g,h,a,b,c,d,f14] 105)) w.heap.size f0 f1 f2 f3 f4 e f6 f g h a b c d f14:=by
 refine ⟨?_, ?_, ?_, ?_, ?_, ?_, ?_, ?_, ?_, ?_, ?_, ?_, ?_, ?_, ?_⟩ <;> simp [go_sem]
theorem held_some (a k m mv:Value) (t pa:Option Addr) (N u pc d l:Nat) (h:Nat→Int) (z c sd j n g:Int) (s:Bool) (f:Nat→Bool) (P:List T3) (w:World) (q:N≤300) (hl:0<l) (M:TRow w pa P) (K:P.length=N) (F:Hg w d N h)
  (p:∀ (V:World) (i:Nat),Bl w V→i<N→Rt 115 #[.agg #[.slice t N u,a,k,m,.slice pa N pc,ABv d,I z,I c,I sd,.bool s,I (l:Int),I j,I n,I g,mv],I (i:Int)] V (.bool (f i))) :
  Cl 75 #[.agg #[.slice t N u,a,k,m,.slice pa N pc,ABv d,I z,I c,I sd,.bool s,I (l:Int),I j,I n,I g,mv]] w fun e w'=>∃ v b,e=.returned (.tuple #[v,.bool b])∧(b=true→∃ (E:Option Addr) (B:Nat) (hl:List Nat),v=.slice E hl.length B∧NumR w' E hl∧hl.length≤300∧∀ x∈hl,x<N)∧Bl w w':=by
 have L:SortsN w N (ABv d) h:=Zt w N (ABv d) h (fun W A x y G H=>byCompare d (x:Int) (y:Int) (decide (h x<h y)) (decide (h y<h x)) _ W (by simp [cmp3]) (fun V o=>Xs V d N y x h (F.kept (Qb A o)) H G q) (fun V o=>Xs V d N x y h (F.kept (Qb A o)) G H q));refine held_walk a k m mv t pa N u pc d l h z c sd j n g s (whL (fS f P j n g) N) w q hl (whL_lt _ _) (Nt (whL_le _ _) q) L ?_;intro W A;subst A;refine where_cap w.heap.size a k m (ABv d) mv t pa N u N pc z c sd l j n g s (fS f P j n g) _ q (fun V i o hi=>?_);have r:Bl w V:=Qb β1 o;have D:i<P.length:=γ
 have e:fS f P j n g i=(f i && sameT P[i].1 P[i].2.1 P[i].2.2 j n g):=by
  simp only [fS,List.getD_eq_getElem?_getD,List.getElem?_eq_getElem D,Option.getD_some]
 rw [e];exact onAt_any w.heap.size a k m (ABv d) mv t pa N u pc z c sd l j n g s (f i) i P V ((hb_box w _ _ _ _ _ _ _ _ _ _ _ _ _ _ _).kept o) (M.kept r) K hi (fun J C=>p J i (Qb r C) hi)
theorem held_gc {d:Dg} (w:World) (hs:Steps w) (C:L.length≤300) (j c sd:Int) (A:Bool) (J x y u:Int) (hl:lineB j c=true) (E:0≤J) (G:∀ i,i<L.length→MOk1 L (gM d) i) (F V:World) (h:Nat→Int) (m:Option Addr) (k r s o z:Nat) (pa:Option Addr) (pc n:Nat) (H:Bl w V) (t:HandAt F V m k r s o pa n L (gK d.cs) d.cs.length (gM d) h) :
  Cl 75 #[.agg #[.slice m L.length k,.map (some r),.map (some s),.slice (Az o) L.length z,.slice pa L.length pc,.func (.func 87) #[] #[.pointer (Az n)],I j,I c,I sd,.bool A,I J,I x,I y,I u,SN]] V fun e w'=>∃ v b hl,e=.returned (.tuple #[v,.bool b])∧(b=true→HlOk L w' v hl)∧Bl V w':=by
 rcases Int.eq_ofNat_of_zero_le E with ⟨l,rfl⟩;rcases Nat.eq_zero_or_pos l with rfl | h0
 ·refine (hand26 F V m k r s o z pa pc n j c sd A x y u L (gK d.cs) d.cs.length (gM d) h SN t (hs.kept H) C hl G).mono ?_;rintro e w' ⟨v,rfl,M,hb⟩;obtain ⟨a,g,rfl,hr⟩:=own_numR M;exact ⟨_,true,_,rfl,fun _=>⟨a,g,rfl,hr,Nt (whL_le _ _) C,whL_lt _ _⟩,hb⟩
 ·have f:=Qu L (gM d) L.length;refine (held_some (.map (some r)) (.map (some s)) (.slice (Az o) L.length z) SN m pa L.length k pc n l h j c sd x y u A (onS L (gM d) j c sd) (pls L (gM d) L.length) V C h0 t.2.2.1 f t.2.2.2.hg (fun K i p hi=>?_)).mono ?_
  ·have hp:i<(pls L (gM d) L.length).length:=γ;have hq:=pls_at L (gM d) L.length i hp
   exact onSide_any (.slice m L.length k) (.map (some r)) (.map (some s)) (.slice (Az o) L.length z) (.func (.func 87) #[] #[.pointer (Az n)]) SN pa L.length pc j c sd l x y u A i (pls L (gM d) L.length) (sideN j c (pt L (gM d) i).1 (pt L (gM d) i).2.1 (pt L (gM d) i).2.2) 0 K (t.2.2.1.kept p) f hp (fun B q=>by
    rw [hq];exact Vb _ _ _ _ _ B (triB_of (G i hi).2) hl (hs.kept (Qb H (Qb p q))))
  ·rintro e w' ⟨v,b,rfl,N,hb⟩
   cases b with
   | false=>exact ⟨v,false,[],rfl,(by intro e;cases e),hb⟩
   | true =>
    obtain ⟨a,g,D,rfl,hr,h3,h4⟩:=N rfl;exact ⟨_,true,D,rfl,fun _=>⟨a,g,rfl,hr,h3,h4⟩,hb⟩
theorem HandAt.gd {b:Option Addr} {k j e:Nat} {pa:Option Addr} {c:Nat} {d:Dg} {f:List Int} {h:Nat→Int} (H:HandAt a w b k i j e pa c L f g M h) (l:HgC L d h):HandAt a w b k i j e pa c L f g M (gH d):=⟨H.1,H.2.1,H.2.2.1,H.2.2.2.like l⟩
def gRx (v c:Int) (m:M6):M6:=((aft m (mir v 0)).1,(aft m (mir v 0)).2.1,(aft m (mir v 0)).2.2.1,(aft m (mir v 0)).2.2.2.1,(aft m (mir v 0)).2.2.2.2.1+stpX v c,(aft m (mir v 0)).2.2.2.2.2+stpY v c)
def mlX (L:List T3) (d:Dg) (mw:Nat→Bool) (v c:Int):List M6:=(List.range L.length).map fun i=>if mw i then gRx v c (gM d i) else gM d i
def gMx (L:List T3) (d:Dg) (mw:Nat→Bool) (v c:Int) (i:Nat):M6:=(mlX L d mw v c).getD i idM
theorem gMx_at {d:Dg} {mw:Nat→Bool} (h:i<L.length):gMx L d mw v c i=if mw i then gRx v c (gM d i) else gM d i:=by simp [gMx,mlX,h]
theorem four (h:0≤v∧v≤3):v=0∨v=1∨v=2∨v=3:=γ
theorem map_mir0 (h:mapM m=true) (g:0≤v∧v≤3):mapM (aft m (mir v 0))=true:=by
 obtain ⟨a,b,c,d,e,f⟩:=m;have i:=Uu h;have h:mapB a b c d e f=true:=h;unfold mapB at h;show mapB _ _ _ _ _ _=true
 unfold mapB;rcases four g with rfl | rfl | rfl | rfl <;> simp [aft,mir,mA,mB,mD,mE,mF,dot,unitB,evenB] at h ⊢ <;> omega
theorem gRx_bd (g:0≤v∧v≤3) (j : -24≤c∧c≤24) (h:(-B≤m.2.2.2.2.1∧m.2.2.2.2.1≤B)∧-B≤m.2.2.2.2.2∧m.2.2.2.2.2≤B):(-(B+48)≤(gRx v c m).2.2.2.2.1∧(gRx v c m).2.2.2.2.1≤B+48)∧-(B+48)≤(gRx v c m).2.2.2.2.2∧(gRx v c m).2.2.2.2.2≤B+48:=by
 obtain ⟨a,b,i,d,e,f⟩:=m;dsimp only at h;rcases four g with rfl | rfl | rfl | rfl <;> simp [gRx,aft,mir,mA,mB,mD,mE,mF,dot,stpX,stpY] <;> omega
theorem hand81c {d:Dg} (v:StripD L) (R:GdC B C L d) (a c sd:Int) (N:Bool) (M H J G:Int) (W:lineB a c=true) (mw:Nat→Bool) (P w:World) (s:Option Addr) (k E F q n:Nat) (pa:Option Addr) (pc t u:Nat) (O:HandAt P w s k E F q pa t L (gK d.cs) d.cs.length (gM d) (gH d)) (U:YRow w u L.length mw) :
  Cl 81 #[.agg #[.slice s L.length k,.map (some E),.map (some F),.slice (Az q) L.length n,.slice pa L.length pc,.func (.func 87) #[] #[.pointer (Az t)],I a,I c,I sd,.bool N,I M,I H,I J,I G,.slice (Az u) L.length L.length]] w fun e w'=>∃ g n,e=.returned (.slice (Az g) L.length n)∧MRow w' g L.length (gMx L d mw a c)∧Bl w w':=by
 have X:=v.le;have hl:=of_decide_eq_true W;have D:0≤a∧a≤3:=⟨hl.1,hl.2.1⟩;have x : -1000000≤c∧c≤1000000:=⟨hl.2.2.1,hl.2.2.2.1⟩;have o:L.length≤300:=γ;refine (mirrored_any (.slice s L.length k) (.map (some E)) (.map (some F)) (.slice pa L.length pc) (.func (.func 87) #[] #[.pointer (Az t)]) (I sd) (.bool N) (I M) (I H) (I J) (I G) q n u L.length a c mw (gM d) (fun i=>gRx a c (gM d i)) w v.pos o U (fun V K=>Vr V q L.length n (gM d) (O.2.1.kept K) v.pos o) (fun V i K hi _=>?_)).mono ?_
 ·have A:=(R.mo.1 i hi).1;have y:=map_mir0 A D;unfold gRx;generalize gM d i=mm at A y ⊢;obtain ⟨b,f,h,j,l,m⟩:=mm;obtain ⟨_,b1,b2⟩:=Gq (show mapM ((aft (b,f,h,j,l,m) (mir a 0)).1,(aft (b,f,h,j,l,m) (mir a 0)).2.1,(aft (b,f,h,j,l,m) (mir a 0)).2.2.1,(aft (b,f,h,j,l,m) (mir a 0)).2.2.2.1,(aft (b,f,h,j,l,m) (mir a 0)).2.2.2.2.1,(aft (b,f,h,j,l,m) (mir a 0)).2.2.2.2.2)=true from y);have z:lineB a 0=true:=by unfold lineB;exact decide_eq_true γ
  have p:mapM (mir a 0)=true:=by rcases four D with rfl | rfl | rfl | rfl <;> decide
  exact reflected_any b f h j l m (mA a) (mB a) (mB a) (mD a) (mE a 0) (mF a 0) (aft (b,f,h,j,l,m) (mir a 0)).1 (aft (b,f,h,j,l,m) (mir a 0)).2.1 (aft (b,f,h,j,l,m) (mir a 0)).2.2.1 (aft (b,f,h,j,l,m) (mir a 0)).2.2.2.1 (aft (b,f,h,j,l,m) (mir a 0)).2.2.2.2.1 (aft (b,f,h,j,l,m) (mir a 0)).2.2.2.2.2 a c 0 0 V D x ⟨γ,γ⟩ ⟨γ,γ⟩ (fun r _=>Zf a 0 r z p) (fun r _=>Vc b f h j l m (mA a) (mB a) (mB a) (mD a) (mE a 0) (mF a 0) r A p y)
 ·rintro e w' ⟨g,Q,rfl,T,_,hb⟩;exact ⟨g,Q,rfl,T.like fun i hi=>(gMx_at hi).symm,hb⟩
def gHx (d:Dg) (mw:Nat→Bool) (ov:Bool) (i:Nat):Int:=if mw i then (if ov then 1000 - gH d i else -1000 - gH d i) else gH d i
theorem rank_eqx {d:Dg} (c:StripD L) (b:GdC B C L d) (mw:Nat→Bool) (a:Bool) {x y:Nat} (f:x<L.length) (g:y<L.length):(if mw x=mw y then (if mw x=true then decide (gH d x<gH d y) else decide (gH d y<gH d x)) else mw x == a)=decide (gHx d mw a y<gHx d mw a x):=by
 have h1:=b.hb x f;have h2:=b.hb y g;have e:=c.le;unfold gHx
 cases mw x <;> cases mw y <;> cases a <;> simp <;> omega
theorem ranks_sortx {d:Dg} (q:StripD L) (F:GdC B C L d) (M c sd:Int) (a:Bool) (K z A v:Int) (mw:Nat→Bool) (u w:World) (o:Option Addr) (k s t p D:Nat) (pa:Option Addr) (pc i l:Nat) (n:HandAt u w o k s t p pa i L (gK d.cs) d.cs.length (gM d) (gH d)) (r:YRow w l L.length mw) (bx:Nat) (E:HB15 w bx (.slice o L.length k) (.map (some s)) (.map (some t)) (.slice (Az p) L.length D) (.slice pa L.length pc) (.func (.func 87) #[] #[.pointer (Az i)]) (I M) (I c) (I sd) (.bool a) (I K) (I z) (I A) (I v) (.slice (Az l) L.length L.length)):SortsN w L.length (.func (.func 130) #[] #[.pointer (Az bx)]) (gHx d mw a):=by
 have G:=q.le;have j:L.length≤300:=γ
 have h:∀ (W:World) (x y:Nat),Bl w W→x<L.length→y<L.length→Rt 130 #[I (x:Int),I (y:Int),.pointer (Az bx)] W (.bool (decide (gHx d mw a y<gHx d mw a x))):=fun W x y b e f=>by
  obtain ⟨_,_,_,_,_,H,_,_,_,J,_,_,_,_,m⟩:=E.kept b;rw [← rank_eqx q F mw a e f];exact ranks_asks bx i l L.length x y a _ _ _ _ W e f γ m H J ((r.kept b) x e).1 ((r.kept b) y f).1 (fun V g=>Xs V i L.length x y (gH d) (((n.2.2.2.kept b).kept g).hg) e f j) (fun V g=>Xs V i L.length y x (gH d) (((n.2.2.2.kept b).kept g).hg) f e j)
 refine Zt w L.length _ (gHx d mw a) (fun W b x y e f=>?_);refine rankCompare bx (x:Int) (y:Int) (decide (gHx d mw a x<gHx d mw a y)) (decide (gHx d mw a y<gHx d mw a x)) _ W ?_ (fun V g=>h V y x (Qb b g) f e) (fun V g=>h V x y (Qb b g) e f);simp [cmp3]
theorem spread_zero (w:World) (d e:Option Nat) (b c:Nat) (f:Option Addr) (a:0<b) :
  Rt 39 #[.agg #[SN,.map d,.map e],.slice f b c] w (.tuple #[.agg #[SN,.map none,.map none,SN,SN],.bool false]):=by
 have g:((b:Int) != 0)=true:=by
  rw [bne_iff_ne];omega
 clear a;go_enter Tryz.func39,Tryz.ntmps39;go_wp2;refine bodyPost_ret (v:=.tuple #[.agg #[SN,.map none,.map none,SN,SN],.bool false]) (by simp [results,Tryz.results39,go_sem]) rfl ⟨rfl, ?_⟩;with_reducible repeat (first | exact Qd _ | refine Qc ?_ | refine Qk ?_ ?_)
 all_goals simp
def P1x (n C:Nat) (Bs:List C5) (e2 e3:Value) (V:World):Prop := ∃ a ca b cb,e2=.slice a n ca∧e3=.slice b Bs.length cb∧Row V a (zW n)∧(∃ p off,a=Ad p off)∧Row V b (gK Bs)∧(b=none∨∃ p off,b=Ad p off)∧Bs.length≤C
theorem P1x.kept {c:List C5} {e2:Value} {d:World} (h:P1x n C c e2 e V) (hb:Bl V d):P1x n C c e2 e d:=by
 obtain ⟨a,f,b,g,h1,h2,h3,h4,h5,h6,i⟩:=h;exact ⟨a,f,b,g,h1,h2,h3.kept hb,h4,h5.kept hb,h6,i⟩
def P2x (L:List T3) (Bs:List C5) (p0 p1 p2:Value) (V:World):Prop:=(∃ ad k ra rk V0 base,p0=.slice ad L.length k∧p1=.map (some ra)∧p2=.map (some rk)∧PK V0 V base ra rk (.slice ad L.length k) L (gix L) (kf (gK Bs) Bs.length)∧∀ i,i<Bs.length→CrOk L (gK Bs) i)∨(p0=SN∧∃ m1 m2,p1=.map m1∧p2=.map m2)
theorem P2x.kept {a:List C5} {c:Value} {b:World} (h:P2x L a c d e V) (hb:Bl V b):P2x L a c d e b:=by
 rcases h with ⟨g,k,l,m,f,base,h0,h1,h2,j,i⟩ | h
 ·exact Or.inl ⟨g,k,l,m,f,base,h0,h1,h2,j.kept hb,i⟩
 ·exact Or.inr h
def P4x (n:Nat) (M:Nat→M6) (mv:Value) (V:World):Prop := ∃ g cm,mv=.slice (Az g) n cm∧MRow V g n M
def P3x (L:List T3) (M:Nat→M6) (Bs:List C5) (q0 q1 q2 q3 q4:Value) (b:Bool) (V:World):Prop:=b=true→∃ ad k ra rk g cm pa pc,q0=.slice ad L.length k∧q1=.map (some ra)∧q2=.map (some rk)∧q3=.slice (Az g) L.length cm∧q4=.slice pa L.length pc∧TRow V ad L∧MRow V g L.length M∧TRow V pa (pls L M L.length)∧MOk (kdn (gK Bs) Bs.length) L M∧∀ i,i<Bs.length→CrOk L (gK Bs) i
theorem P3x.kept {a:List C5} {i j l:Value} {b:Bool} {c:World} (h:P3x L M a d f i j l b V) (hb:Bl V c):P3x L M a d f i j l b c:=fun e=>by
 obtain ⟨m,k,o,p,g,n,pa,pc,h0,h1,h2,h3,h4,q,r,t3,h5⟩:=h e;exact ⟨m,k,o,p,g,n,pa,pc,h0,h1,h2,h3,h4,q.kept hb,r.kept hb,t3.kept hb,h5⟩
theorem P3x.far {c:List C5} {i j l m:Value} {b:Bool} {d:World} {x:Nat} (h0:0<L.length) (h:P3x L M c f i j l m b V) (a:At V x 0 SN) (hg:V.grownBy d (some x)):P3x L M c f i j l m b d:=fun e=>by
 obtain ⟨p,k,t,u,g,q,pa,pc,e0,e1,e2,r,s,n,o,t3,h5⟩:=h e;have hp:=Qu L M L.length;exact ⟨p,k,t,u,g,q,pa,pc,e0,e1,e2,r,s,n.grown hg (n.not_at h0 a),o.grown hg (o.not_at h0 a),t3.grown hg (t3.not_at γ a),h5⟩
def P5x (B:Int) (C n:Nat) (L:List T3) (base:Nat) (v2 v3 v4 v5:Value) (V:World):Prop := ∃ d' a1 c1 b1 c2 m1 c3 p1 c4,v2=.slice a1 n c1∧v3=.slice b1 (Dg.cs d').length c2∧v4=.slice m1 L.length c3∧v5=.slice p1 (gS L d').length c4∧S5D n L d' base a1 c1 b1 c2 m1 c3 p1 c4 V∧GdC B C L d'
theorem P5x.kept {b:Value} (h:P5x B C n L base b v3 v4 v5 V) (hb:Bl V a):P5x B C n L base b v3 v4 v5 a:=by
 obtain ⟨c,a1,c1,b1,c2,d,c3,e,c4,h1,h2,h3,h4,h5,h6⟩:=h;exact ⟨c,a1,c1,b1,c2,d,c3,e,c4,h1,h2,h3,h4,h5.kept hb,h6⟩
theorem P5x.grown {c:Value} (h:P5x B C n L base c v3 v4 v5 V) (hg:V.grownBy a (some b)) (hb:b<base):P5x B C n L base c v3 v4 v5 a:=by
 obtain ⟨d,a1,c1,b1,c2,e,c3,f,c4,h1,h2,h3,h4,h5,h6⟩:=h;exact ⟨d,a1,c1,b1,c2,e,c3,f,c4,h1,h2,h3,h4,h5.grown hg hb,h6⟩
theorem S5D.stc {d:Dg} {a1:Option Addr} {c1:Nat} {b1:Option Addr} {c2:Nat} {a:Option Addr} {c3:Nat} {b:Option Addr} {c4:Nat} (c:1≤n) (h:S5D n L d base a1 c1 b1 c2 a c3 b c4 V):StC n L d a1 b1 a b V:=by
 have:=h.sta c;exact ⟨this.z,this.za,this.k,this.ka,this.m,this.s⟩
theorem hand80c {d:Dg} (O:StripD L) (hG:GdC B C L d) (hC:C≤10000) (hn:1≤W*H∧W*H≤64) (K c sd:Int) (r:Bool) (J F G E:Int) (mw:Nat→Bool) (Z w:World) (s:Option Addr) (k z D n v:Nat) (pa:Option Addr) (pc t x:Nat) (Y:HandAt Z w s k z D n pa t L (gK d.cs) d.cs.length (gM d) (gH d)) (hY:YRow w x L.length mw) (hs:Steps w) (a0 c0:Option Addr) (M N:Nat) (hz:Row w a0 (zW (W*H))) (ha:∃ b off,a0=Ad b off) (hk:Row w c0 (gK d.cs)) (T:c0=none∨∃ p off,c0=Ad p off) :
  Cl 80 #[.agg #[.slice s L.length k,.map (some z),.map (some D),.slice (Az n) L.length v,.slice pa L.length pc,.func (.func 87) #[] #[.pointer (Az t)],I K,I c,I sd,.bool r,I J,I F,I G,I E,.slice (Az x) L.length L.length],.agg #[I (W:Int),I (H:Int),.slice a0 (W*H) M,.slice c0 d.cs.length N]] w fun e w'=>∃ l aa na cx bb nb cy,e=.returned (.agg #[I (W:Int),I (H:Int),.slice aa na cx,.slice bb nb cy])∧P1x (W*H) (C+96) l (.slice aa na cx) (.slice bb nb cy) w'∧Bl w w':=by
 have a6:=O.le;have h3:=smL_len (mw:=mw) (jl3 O) L.length;have a2:=hG.cn;have Q:a0=none∨∃ p off,a0=Ad p off:=Or.inr ha;refine (creased_any (.slice s L.length k) (.map (some z)) (.map (some D)) (.slice (Az n) L.length v) (.slice pa L.length pc) (.func (.func 87) #[] #[.pointer (Az t)]) (I K) (I c) (I sd) (.bool r) (I J) (I F) (I G) (I E) (.slice (Az x) L.length L.length) (.slice a0 (W*H) M) (.slice c0 d.cs.length N) (W:Int) (H:Int) (zW (W*H)) (gKs d r) d.cs (smL mw (gJl L) L.length) w γ (fun V f=>?_) (fun V f=>seams_gc O K c sd r J F G E (gH d) mw Z V s k z D n v pa pc t x (Y.kept f) (hY.kept f) (hs.kept f)) (fun V j f hj=>?_) (fun V base c8 a8 l ho hl=>sortCrease_any V base c8 a8 l ho hl)).mono ?_
 ·have:=copy_own (W:Int) (H:Int) a0 c0 M N d.cs.length (zW (W*H)) (gK d.cs) V (hz.kept f) (hk.kept f) (Zq _) γ5 γ Q T;rw [Ju] at this;refine this.mono ?_;rintro e w' ⟨a,c1,b,c2,rfl,h1,h2,hb⟩;exact ⟨_,_,by rw [Ju],h1,by rw [flatJ_gK];exact h2,hb⟩
 ·obtain ⟨q,hq,R⟩:=List.mem_flatMap.1 hj;have X:q<L.length:=by simpa using hq
  have i:=(List.mem_filter.1 R).1;unfold gJl at i;rw [if_pos X] at i;obtain ⟨p1,p2⟩:=jl_pos i;obtain ⟨m,hm⟩:=Int.eq_ofNat_of_zero_le p1;obtain ⟨⟨e0,e1,e2,e3⟩,tz⟩:=j;dsimp only at hm p2;subst hm;have y:m<L.length:=γ;exact kindS_any (.slice s L.length k) (.map (some z)) (.map (some D)) (.slice (Az n) L.length v) (.func (.func 87) #[] #[.pointer (Az t)]) (.slice (Az x) L.length L.length) pa L.length pc K c sd J F G E r e0 e1 e2 e3 (m:Int) (tov (gM d m)) V (fun V' P=>Zh V' _ _ _ _ n L.length v m (gM d) ((Y.2.1.kept f).kept P) y γ (hG.mo.1 m y).1)
 ·rintro e w' ⟨va,b,cb,l,rfl,h1,h2,h4,h5,h6,hb⟩;rw [Ju] at h1;obtain ⟨a,u,ea,A⟩:=Yu h1 (by rw [Ju,Nat.mul_one]);subst ea;have hl:=h2.length_eq
  have U:l.length≤C+96:=by
   rw [hl];have:(crL (gKs d r) d.cs (smL mw (gJl L) L.length) (smL mw (gJl L) L.length).length).length=d.cs.length+(smL mw (gJl L) L.length).length:=by simp [crL]
   omega
  refine ⟨l,a,W*H,u,b,_,cb,rfl,⟨a,u,b,cb,rfl,by rw [hl],A.row, ?_,jrow_row h5, ?_,U⟩,hb⟩
  ·obtain ⟨q,o,e,_⟩:=A.row 0 γ5;exact ⟨q,o,e⟩
  ·rcases h6 with h | ⟨g,h,_⟩
   ·exact Or.inl h
   ·exact Or.inr ⟨g,0,h⟩
theorem kept_new {d:Dg} {b:List (T3×List Nat)} {h:Nat→Int} {a:List C5} {mw:Nat→Bool} {f:Int} (k:GdC B C L d) (n:0≤f∧f≤3) (l : -24≤c∧c≤24) (_o:0≤B) (hl:a.length≤C+96) (j:∀ i,i<a.length→CrOk L (gK a) i) (m:MOk (kdn (gK a) a.length) L (gMx L d mw f c)) (hp:Heap L.length (plcA (pls L (gMx L d mw f c) L.length)) h b):GdC (B+48) (C+96) L ⟨a,mlX L d mw f c,b,(List.range L.length).map (hpos b)⟩:=by
 have g:Heap L.length (gP L ⟨a,mlX L d mw f c,b,(List.range L.length).map (hpos b)⟩) h b:=Vp hp (fun i hi=>Jm hi) fun _ _=>rfl;refine ⟨j,m,heap_hl g _ _,heap_ol g _ _,hl,fun i hi=>?_⟩;have e:gM ⟨a,mlX L d mw f c,b,(List.range L.length).map (hpos b)⟩ i=if mw i then gRx f c (gM d i) else gM d i:=gMx_at hi;rw [e];have hb:=k.bd i hi;split
 ·exact gRx_bd n l hb
 ·omega
theorem gRx_mir (a:0≤v∧v≤3):gRx v c m=aft m (mir v c):=by
 rcases four a with rfl | rfl | rfl | rfl <;> simp [gRx,aft,mir,mE,mF,stpX,stpY]
theorem dis_x {d:Dg} (n:StripD L) (f:GdC B C L d) {k:Int} (o:lineB k c=true) (s : -24≤c∧c≤24) (mw:Nat→Bool) (m:Bool) {j:Nat} (hi:i<L.length) (h:j<L.length) (e:mvt (gMx L d mw k c i) (L.getD i (0,0,0))=mvt (gMx L d mw k c j) (L.getD j (0,0,0))) (l:i≠j):gHx d mw m i≠gHx d mw m j:=by
 have hl:=of_decide_eq_true o;have p:0≤k∧k≤3:=⟨hl.1,hl.2.1⟩;have h1:=f.hb i hi;have h2:=f.hb j h;have t:=n.le;have u:=(Gp o ⟨γ,γ⟩).1
 have g:∀ {a:Nat},a<L.length→Kd (L.getD a (0,0,0)):=fun {a} r=>by
  rw [Qq L a r];exact kd_of n (Lm _)
 rw [gMx_at hi,gMx_at h] at e
 have b:mw i=mw j→gH d i≠gH d j:=fun q=>heap_dis f.hp hi h (by
  unfold gP;rw [q] at e
  cases hq:mw j with
  | false =>
   rw [hq] at e;exact e
  | true =>
   rw [hq] at e;simp only [if_true] at e;rw [gRx_mir p,gRx_mir p,Zw (f.mo.1 i hi).1 (g hi),Zw (f.mo.1 j h).1 (g h)] at e;exact mvt_inj u Vm Vm e) l
 unfold gHx
 cases hi2:mw i <;> cases hj2:mw j <;> rw [hi2,hj2] at b <;> cases m <;> simp at b ⊢ <;> omega
theorem hlay_gc {d:Dg} (r:ShOk W H L) (hG:GdC B C L d) (hC:C≤10000) (hB:0≤B) (m c sd:Int) (E:Bool) (ly X Y U:Int) (hc:lineB m c=true) (a2 : -24≤c∧c≤24) (mw:Nat→Bool) (V0 w:World) (s:Option Addr) (k n o K v:Nat) (pa:Option Addr) (pc F M:Nat) (HA:HandAt V0 w s k n o K pa F L (gK d.cs) d.cs.length (gM d) (gH d)) (hY:YRow w M L.length mw) (hs:Steps w) (a0 c0:Option Addr) (ca cc:Nat) (hz:Row w a0 (zW (W*H))) (ha:∃ b off,a0=Ad b off) (hk:Row w c0 (gK d.cs)) (ai:c0=none∨∃ p off,c0=Ad p off) :
  Cl 38 #[.agg #[.slice s L.length k,.map (some n),.map (some o),.slice (Az K) L.length v,.slice pa L.length pc,.func (.func 87) #[] #[.pointer (Az F)],I m,I c,I sd,.bool E,I ly,I X,I Y,I U,.slice (Az M) L.length L.length],.agg #[I (W:Int),I (H:Int),.slice a0 (W*H) ca,.slice c0 d.cs.length cc]] w fun e w'=>LayW w w' (W:Int) (H:Int) (P5x (B+48) (C+96) (W*H) L) e:=by
 have D:=r.st;have ba:=D.le;have O:=D.pos;have a6:L.length≤300:=γ;have hl:=of_decide_eq_true hc;have hv:0≤m∧m≤3:=⟨hl.1,hl.2.1⟩;have hn:1≤W*H∧W*H≤64:=⟨Nat.mul_pos (by have:=r.w1;omega) (by have:=r.h1;omega),Nat.mul_le_mul r.w1.2 r.h1.2⟩
 refine lay_weak (G:=List C5) (.slice s L.length k) (.map (some n)) (.map (some o)) (.slice (Az K) L.length v) (.slice pa L.length pc) (.func (.func 87) #[] #[.pointer (Az F)]) (I m) (I c) (I sd) (.bool E) (I ly) (I X) (I Y) (I U) (.slice (Az M) L.length L.length) (W:Int) (H:Int) (.slice a0 (W*H) ca) (.slice c0 d.cs.length cc) w (P1x (W*H) (C+96)) (P2x L) (P3x L (gMx L d mw m c)) (P4x L.length (gMx L d mw m c)) (P5x (B+48) (C+96) (W*H) L)
  (fun V T l _ _ _ _ _ _ h hb=>h.kept hb)
  (fun V T l _ _ _ _ _ h hb=>h.kept hb)
  (fun V T l _ _ _ _ _ _ _ _ _ _ _ b h hb=>h.kept hb)
  (fun V T _ _ _ h hb=>by
   obtain ⟨g,v,e,A⟩:=h;exact ⟨g,v,e,A.kept hb⟩)
  (fun V T l _ _ _ _ _ _ _ _ _ _ _ b g h hz hg=>h.far O hz hg)
  (fun V T base _ _ _ _ _ _ _ _ _ _ _ _ h hb=>h.kept hb)
  (fun V T base b _ _ _ _ _ _ _ _ _ _ _ _ h hg hb=>h.grown hg hb)
  (fun V f=>hand80c D hG hC hn m c sd E ly X Y U mw V0 V s k n o K v pa pc F M (HA.kept f) (hY.kept f) (hs.kept f) a0 c0 ca cc (hz.kept f) ha (hk.kept f) ai)
  (fun V l J ae x y af z f h=>?_)
  (fun V f=>(hand81c D hG m c sd E ly X Y U hc mw V0 V s k n o K v pa pc F M (HA.kept f) (hY.kept f)).mono ?_)
  (fun V l Q am R aa ab bb bc P f h A=>?_)
  (fun V=>?_)
  (fun V l J ae x y af z Q am R aa ab an bh ao bi bj bk bm ap aq bn ar bx f h1 _ h3 hB=>?_)
  (fun V base bo bp aw bq br az bs bt b5 bu bv b6 f h=>?_)
 ·obtain ⟨a,ac,b,cb,e1,e2,r1,r2,r3,r4,r5⟩:=h
  cases e1
  cases e2;by_cases q:∀ i,i<l.length→CrOk L (gK l) i
  ·refine (lay_gc r l J y x z V r1 r2 r3 (hs.kept f) q γ).mono ?_;rintro e w' ⟨s,k,base,n,o,rfl,Z⟩;exact ⟨_,_,_,_,_,_,rfl,Or.inl ⟨s,k,n,o,V,base,rfl,rfl,rfl,Z,q⟩,Z.2.2.2.2⟩
  ·obtain ⟨b0,off,rfl⟩:=r2;have:=lay_nocrease W H b0 off x l.length z y (zW (W*H)) (gK l) V r1 r.w1 r.h1 (Ju _) (by simp [maskB,zW]) r3 (Zq l) γ (hs.kept f) (by rw [r.e];exact D.jo) (by rw [r.e];exact q);rw [Ju] at this;refine this.mono ?_;rintro e w' ⟨rfl,hb⟩;exact ⟨_,_,_,_,_,_,rfl,Or.inr ⟨rfl,none,none,rfl,rfl⟩,hb⟩
 ·rintro e w' ⟨g,v,rfl,A,hb⟩;exact ⟨_,_,_,rfl,⟨g,v,rfl,A⟩,hb⟩
 ·obtain ⟨g,b8,e1,A⟩:=A
  cases e1;rcases h with ⟨s,k,n,o,V1,base,e0,e1,e2,Z,q⟩ | ⟨e0,m1,m2,e1,e2⟩
  ·cases e0
   cases e1
   cases e2;refine (Vj V R n o g P Q L (kdn (gK l) l.length) (gMx L d mw m c) (hs.kept f) Z.pa Z.kl a6 D.bd A).mono ?_;rintro e w' (⟨z0,k0,d0,m1,m2,z3,k3,d3,z4,k4,d4,rfl,_,hb⟩ | ⟨pa,pc,rfl,hm,hT,hb⟩)
   ·exact ⟨_,_,_,_,_,_,_,_,_,_,_,_,rfl,(fun e=>Bool.noConfusion e),hb⟩
   ·exact ⟨_,_,_,_,_,_,_,_,_,_,_,_,rfl,fun _=>⟨Q,R,n,o,g,P,pa,pc,rfl,rfl,rfl,rfl,rfl,Z.pa.1.kept hb,A.kept hb,hT,hm,q⟩,hb⟩
  ·cases e0
   cases e1
   cases e2;refine (spread_zero V aa ab L.length P (Az g) O).mono ?_;rintro e w' ⟨rfl,hb⟩;exact ⟨_,_,_,_,_,_,_,_,_,_,_,_,rfl,(fun e=>Bool.noConfusion e),hb⟩
 ·refine (ranks_any (.slice s L.length k) (.map (some n)) (.map (some o)) (.slice (Az K) L.length v) (.slice pa L.length pc) (.func (.func 87) #[] #[.pointer (Az F)]) (I m) (I c) (I sd) (.bool E) (I ly) (I X) (I Y) (I U) (.slice (Az M) L.length L.length) V).mono ?_;rintro e w' ⟨rfl,rfl⟩;exact ⟨V.heap.size,rfl,by simp [HB15,go_sem],Qc (Qd _)⟩
 ·obtain ⟨a,ac,b,cb,e1,e2,r1,r2,r3,r4,r5⟩:=h1
  cases e1
  cases e2;obtain ⟨b7,k2,au,av,g2,b9,be,bg,e0,e1,e2,e3,e4,t1,t2,t3,hm,ah⟩:=h3 rfl
  cases e0
  cases e1
  cases e2
  cases e3
  cases e4;have a7:=Qu L (gMx L d mw m c) L.length;have a8:=state_own V (W:Int) (H:Int) J y x z l.length (zW (W*H)) (gK l) an aq ao au av g2 ap ar (gMx L d mw m c) L (pls L (gMx L d mw m c) L.length) (.func (.func 130) #[] #[.pointer (Az bx)]) (gHx d mw E) r1 r3 (Zq _) γ5 γ (Or.inr r2) r4 a7 t1 t3 t2 O a6 (fun W' N=>ranks_sortx D hG m c sd E ly X Y U mw V0 W' s k n o K v pa pc F M (HA.kept (Qb f N)) (hY.kept (Qb f N)) bx (hB.kept N)) (fun i j hi hj e aj=>?_)
  ·rw [Ju] at a8;refine a8.mono ?_;rintro e w' ⟨a3,c1,b3,c2,g,c3,t,u,Hp,rfl,q1,q2,q3,q4,q5,q6,hb⟩;rw [Ju] at q1;have ag:=kept_new hG hv a2 ‹0≤B› r5 ah hm q5;exact ⟨_,_,_,_,_,_,_,_,_,_,_,_,rfl,⟨⟨l,mlX L d mw m c,Hp,(List.range L.length).map (hpos Hp)⟩,a3,c1,b3,c2,Az g,c3,t,u,by rw [Ju],rfl,rfl,by simp only [gS,List.length_map],⟨q1,q2,⟨g,rfl,q4,q3⟩,q6⟩,ag⟩,hb⟩
  ·rw [a7] at hi hj;rw [Jm hi,Jm hj] at e;exact dis_x D hG hc a2 mw E hi hj e aj
 ·obtain ⟨d',a1,c1,b1,c2,m1,c3,p1,c4,e1,e2,e3,e4,h5,h6⟩:=h
  cases e1
  cases e2
  cases e3
  cases e4;exact clash_gc r h6 γ aw az b5 b6 V (h5.stc hn.1) (hs.kept f)
theorem resDo {f0 f1 f2 f3 f4 a:Value} {T:Array Value} {n:Int} (h:BX6 w b f0 f1 f2 f3 f4 a) (h4:T[4]?=some (.pointer (Az b))) (h5:T[5]?=some (I n)):(results Tryz.f13 T).run Tryz.prog w=.ok (.tuple #[.agg #[f0,f1,f2,f3,f4,a],I n]) w:=by
 obtain ⟨t0,c,d,t3,t4,t5⟩:=h.1;simp [results,Tryz.results13,go_sem,h4,h5,t0,c,d,t3,t4,t5]
theorem do_end {b:World} {W H:Int} {f:Nat→Value→Value→Value→Value→World→Prop} {T:Array Value} {a:Int} (K:BX6 b (w.heap.size+1+1) (I 0) (I 0) SN SN SN SN∧Bl w b) (h4:T[4]?=some (.pointer (Az (w.heap.size+1+1)))) (h5:T[5]?=some (I a)) (g:a≠0) :
  bodyPost Tryz.prog Tryz.f13 (fun e w'=>LayW w w' W H f e) Exit.ret { tmps:=T,defers:=[] } (setBX6 b (w.heap.size+1+1) (I 0) (I 0) SN SN SN SN):=by
 have c:=K.1.put (g0:=I 0) (g1:=I 0) (g2:=SN) (g3:=SN) (g4:=SN) (g5:=SN);have d:=Jf b (w.heap.size+1+1) (I 0) (I 0) SN SN SN SN;exact bodyPost_ret (resDo c h4 h5) rfl (Or.inl ⟨a,rfl,g,K.2.grown d K.2.size (fun k h=>by cases h;omega)⟩)
theorem do_weak (Q:(Nat→Int)→Prop) (W H:Int) (a0 c0 mp sp:Option Addr) (zl ca n cc mn mc sl sc:Nat) (wy c sd:Int) (Z:Bool) (Y P R O:Int) (L:List T3) (ks:List Int) (nk:Nat) (M:Nat→M6) (w:World) (S5:Nat→Value→Value→Value→Value→World→Prop)
  (k6:∀ (V V':World) (base b:Nat) (o:Option Addr) (q p:Nat) (r:Option Addr) (t s:Nat) (u:Option Addr) (x v:Nat) (y:Option Addr) (A z:Nat),S5 base (.slice o q p) (.slice r t s) (.slice u x v) (.slice y A z) V→V.grownBy V' (some b)→b<base→S5 base (.slice o q p) (.slice r t s) (.slice u x v) (.slice y A z) V')
  (a2:∀ V:World,Bl w V→Cl 37 #[.agg #[I W,I H,.slice a0 zl ca,.slice c0 n cc,.slice mp mn mc,.slice sp sl sc],.agg #[I wy,I c,I sd,.bool Z,I Y,I P,I R,I O]] V fun e w'=>TkW Q V w' L ks nk M wy c sd Z Y P R O e) (a6:∀ (V0 V:World) (mw:Nat→Bool) (h:Nat→Int) (N:Option Addr) (k ra rk U cm:Nat) (pa:Option Addr) (pc T X:Nat),Bl w V0→Bl w V→Q h→HandAt V0 V N k ra rk U pa T L ks nk M h→YRow V X L.length mw→Cl 38 #[.agg #[.slice N L.length k,.map (some ra),.map (some rk),.slice (Az U) L.length cm,.slice pa L.length pc,.func (.func 87) #[] #[.pointer (Az T)],I wy,I c,I sd,.bool Z,I Y,I P,I R,I O,.slice (Az X) L.length L.length],.agg #[I W,I H,.slice a0 zl ca,.slice c0 n cc]] V fun e w'=>LayW V w' W H S5 e) :
  Cl 13 #[.agg #[I W,I H,.slice a0 zl ca,.slice c0 n cc,.slice mp mn mc,.slice sp sl sc],.agg #[I wy,I c,I sd,.bool Z,I Y,I P,I R,I O]] w fun e w'=>LayW w w' W H S5 e:=by
 have af:=Hd a2;have ag:=Hd a6;have C6:=Hd k6;clear k6 a2 a6;go_enter Tryz.func13,Tryz.ntmps13;go_upto_region 1 with fail
 refine Qj (fun a hW0=>?_)
 have K:Hid (((At a w.heap.size 0 (I W)∧At a w.heap.size 1 (I H)∧At a w.heap.size 2 (.slice a0 zl ca)∧At a w.heap.size 3 (.slice c0 n cc)∧At a w.heap.size 4 (.slice mp mn mc)∧At a w.heap.size 5 (.slice sp sl sc))∧BX6 a (w.heap.size+1+1) (I 0) (I 0) SN SN SN SN∧Bl w a)∧(At a (w.heap.size+1) 0 (I wy)∧At a (w.heap.size+1) 1 (I c)∧At a (w.heap.size+1) 2 (I sd)∧At a (w.heap.size+1) 3 (.bool Z)∧At a (w.heap.size+1) 4 (I Y)∧At a (w.heap.size+1) 5 (I P)∧At a (w.heap.size+1) 6 (I R)∧At a (w.heap.size+1) 7 (I O))):=by
  rw [hW0];refine ⟨⟨?_, ?_, ?_⟩, ?_⟩
  ·simp [go_sem]
  ·simp [BX6,go_sem]
  ·with_reducible repeat' (first | exact Qd _ | refine Qc ?_ | refine Qe ?_)
  ·simp [go_sem]
 clear hW0;obtain ⟨⟨⟨k0,k1,k2,k3,G,J⟩,_,_⟩,⟨d0,d1,d2,d3,d4,d5,d6,d7⟩⟩:=K.out;have i:=bk k0;have j:=bk d0;dsimp only at i j;go_wp2_with (fail)
 refine (af.out _ K.out.1.2.2).mono ?_;rintro e w1 (⟨E,rfl,D,hb⟩ | ⟨mw,h,hQ,N,k,ra,rk,U,cm,pa,pc,T,X,rfl,hA,hY,hg,hb⟩)
 ·have B:BX6 w1 (w.heap.size+1+1) (I 0) (I 0) SN SN SN SN∧Bl w w1:=⟨K.out.1.2.1.kept hb,Qb K.out.1.2.2 hb⟩;clear hb k0 k1 k2 k3 G J d0 d1 d2 d3 d4 d5 d6 d7 i j;have g:(E != 0)=true:=by rw [bne_iff_ne];exact D
  go_upto_region 3 with fail
  refine Qj (fun d m=>?_)
  have hb:Bl w1 d:=by
   rw [m];with_reducible repeat' (first | exact Qd _ | refine Qc ?_ | refine Qe ?_)
  have l:BX6 d (w.heap.size+1+1) (I 0) (I 0) SN SN SN SN∧Bl w d:=⟨B.1.kept hb,Qb B.2 hb⟩;clear m hb B;obtain ⟨⟨r0,r1,r2,r3,r4,r5⟩,y0,y1,y2,y3,y4,y5⟩:=l.1;have rz:=bk r0;dsimp only at rz;go_wp2;exact do_end l rfl rfl D
 ·have B:=H4 hb hQ hA hY;clear hb hA hY hg hQ k0 k1 k2 k3 G J d0 d1 d2 d3 d4 d5 d6 d7 i j;go_upto_region 2 with fail
  refine Qj (fun d m=>?_);obtain ⟨b,F⟩:∃ b,b=w1.heap.size:=⟨_,rfl⟩
  have l:Hid (((At d w.heap.size 0 (I W)∧At d w.heap.size 1 (I H)∧At d w.heap.size 2 (.slice a0 zl ca)∧At d w.heap.size 3 (.slice c0 n cc)∧At d w.heap.size 4 (.slice mp mn mc)∧At d w.heap.size 5 (.slice sp sl sc))∧BX6 d (w.heap.size+1+1) (I 0) (I 0) SN SN SN SN∧Bl w d)∧HandAt a d N k ra rk U pa T L ks nk M h∧YRow d X L.length mw∧HB15 d b (.slice N L.length k) (.map (some ra)) (.map (some rk)) (.slice (Az U) L.length cm) (.slice pa L.length pc) (.func (.func 87) #[] #[.pointer (Az T)]) (I wy) (I c) (I sd) (.bool Z) (I Y) (I P) (I R) (I O) (.slice (Az X) L.length L.length)):=by
   have hb:Bl w1 d:=by
    rw [m];with_reducible repeat' (first | exact Qd _ | refine Qc ?_ | refine Qe ?_)
   have f:=Qb B.out.1 hb;obtain ⟨⟨⟨k0,k1,k2,k3,G,J⟩,hX,hB⟩,_⟩:=K.out;refine ⟨⟨⟨Qa f k0,Qa f k1,Qa f k2,Qa f k3,Qa f G,Qa f J⟩,hX.kept f,Qb hB f⟩,B.out.2.2.1.kept hb,B.out.2.2.2.kept hb, ?_⟩;rw [m,F];simp [HB15,go_sem]
  have HQ:=Hd B.out.2.1;rw [← F];clear m B F;obtain ⟨⟨k0,k1,k2,k3,G,J⟩,_,_⟩:=l.out.1;obtain ⟨x0,x1,x2,x3,x4,x5,x6,x7,x8,x9,a8,aa,ab,ac,ae⟩:=l.out.2.2.2;have i:=bk k0;have j:=bk x0;dsimp only at i j;go_wp2_with (fail)
  refine (ag.out a d mw h N k ra rk U cm pa pc T X K.out.1.2.2 l.out.1.2.2 HQ.out l.out.2.1 l.out.2.2.1).mono ?_;rintro e w3 (⟨E,rfl,D,hb⟩ | ⟨base,o,q,p,r,t,s,u,x,v,y,A,z,rfl,hS,a7,hb⟩)
  ·have C:BX6 w3 (w.heap.size+1+1) (I 0) (I 0) SN SN SN SN∧Bl w w3:=⟨l.out.1.2.1.kept hb,Qb l.out.1.2.2 hb⟩;clear hb k0 k1 k2 k3 G J x0 x1 x2 x3 x4 x5 x6 x7 x8 x9 a8 aa ab ac ae i j;obtain ⟨⟨r0,r1,r2,r3,r4,r5⟩,y0,y1,y2,y3,y4,y5⟩:=C.1;have rz:=bk r0;dsimp only at rz;go_wp2;exact do_end C rfl rfl D
  ·have C:=H4 hS a7 (l.out.1.2.1.kept hb) (Qb l.out.1.2.2 hb);clear hS a7 hb k0 k1 k2 k3 G J x0 x1 x2 x3 x4 x5 x6 x7 x8 x9 a8 aa ab ac ae i j;obtain ⟨⟨r0,r1,r2,r3,r4,r5⟩,y0,y1,y2,y3,y4,y5⟩:=C.out.2.2.1;have rz:=bk r0;dsimp only at rz;go_wp2
   have HZ:w.heap.size+1+1<base:=by
    have h1:=bk l.out.1.2.1.1.1;have h2:=C.out.2.1;dsimp only at h1;omega
   have HG:=Jf w3 (w.heap.size+1+1) (I W) (I H) (.slice o q p) (.slice r t s) (.slice u x v) (.slice y A z);have HC:=C.out.2.2.1.put (g0:=I W) (g1:=I H) (g2:=.slice o q p) (g3:=.slice r t s) (g4:=.slice u x v) (g5:=.slice y A z);exact bodyPost_ret (resDo HC rfl rfl) rfl (Or.inr ⟨base,_,_,_,_,_,_,_,_,_,_,_,_,rfl,C6.out _ _ _ _ _ _ _ _ _ _ _ _ _ _ _ _ C.out.1 HG HZ,γ,C.out.2.2.2.grown HG C.out.2.2.2.size (fun k h=>by cases h;omega)⟩)
theorem do_gc {d:Dg} (R:ShOk W H L) (Q:GdC B C L d) (Y:C≤10000) (X:0≤B) (o c sd:Int) (u:Bool) (l q r p:Int) (T:lineB o c=true) (E : -24≤c∧c≤24) (J:sd=1∨sd=-1) (G:0≤l) {M O:Option Addr} (x y K N:Nat) (w:World) (t:StC (W*H) L d a0 c0 M O w) (hs:Steps w)
  (D:∀ (f V:World) (h:Nat→Int) (g:Option Addr) (k m n j s:Nat) (pa:Option Addr) (pc i:Nat),Bl w f→Bl w V→HgC L d h→HandAt f V g k m n j pa i L (gK d.cs) d.cs.length (gM d) h→Cl 75 #[.agg #[.slice g L.length k,.map (some m),.map (some n),.slice (Az j) L.length s,.slice pa L.length pc,.func (.func 87) #[] #[.pointer (Az i)],I o,I c,I sd,.bool u,I l,I q,I r,I p,SN]] V fun e w'=>∃ v b hl,e=.returned (.tuple #[v,.bool b])∧(b=true→HlOk L w' v hl)∧Bl V w') :
  Cl 13 #[.agg #[I (W:Int),I (H:Int),.slice a0 (W*H) x,.slice c0 d.cs.length y,.slice M L.length K,.slice O (gS L d).length N],.agg #[I o,I c,I sd,.bool u,I l,I q,I r,I p]] w fun e w'=>LayW w w' (W:Int) (H:Int) (P5x (B+48) (C+96) (W*H) L) e :=
 do_weak (HgC L d) (W:Int) (H:Int) a0 c0 M O (W*H) x d.cs.length y L.length K (gS L d).length N o c sd u l q r p L (gK d.cs) d.cs.length (gM d) w (P5x (B+48) (C+96) (W*H) L)
  (fun V P base b _ _ _ _ _ _ _ _ _ _ _ _ h hg hb=>h.grown hg hb)
  (fun V a=>take_gc R Q γ o c sd u l q r p T J G x y K N V (t.kept a) (hs.kept a) (fun f P h g k m n j s pa pc i h0 h1 F A=>D f P h g k m n j s pa pc i (Qb a h0) (Qb a h1) F A))
  (fun f V mw h g k m n j s pa pc i U _ a F A Z=>hlay_gc R Q Y X o c sd u l q r p T E mw f V g k m n j s pa pc i U (A.gd F) Z (hs.kept a) a0 c0 x y (t.z.kept a) t.za (t.k.kept a) t.ka)
def pkN (n m:Int):Int:=if n<0 then (-(n+1)) % m else n % m
theorem Yg (n:Int) {m:Int} (a:0<m):0≤pkN n m∧pkN n m<m:=by
 unfold pkN;split
 ·exact ⟨Int.emod_nonneg _ γ,Int.emod_lt_of_pos _ a⟩
 ·exact ⟨Int.emod_nonneg _ γ,Int.emod_lt_of_pos _ a⟩
theorem Jn (n m:Int) (a:0<m∧m≤1000000) (h1 : -9223372036854775808≤n) (h2:n≤9223372036854775807) (w:World):Rt 5 #[I n,I m] w (I (pkN n m)):=by
 have b:¬ m=0:=γ;have c:(m == 0)=false:=by rw [beq_eq_false_iff_ne];omega
 have d:¬ m=-1:=γ;obtain ⟨b0,b1⟩:=Yg n a.1;have b2:pkN n m<9223372036854775808:=γ;by_cases q:n<0
 ·have e1 : -((n+1).tmod m)=pkN n m:=by
   rw [pkN,if_pos q,← Int.neg_tmod,Int.tmod_eq_emod_of_nonneg γ]
  have e2:(-(n+1)).tmod m=pkN n m:=by rw [Int.neg_tmod];exact e1
  go_enter Tryz.func5,Tryz.ntmps5;go_wp2;go_ret;exact ⟨rfl,Qd _⟩
 ·have e1:n.tmod m=pkN n m:=by rw [pkN,if_neg q,Int.tmod_eq_emod_of_nonneg γ]
  have e2:n % m=pkN n m:=by rw [pkN,if_neg q]
  go_enter Tryz.func5,Tryz.ntmps5;go_wp2;go_ret;exact ⟨rfl,Qd _⟩
theorem do_c {d:Dg} (N:ShOk W H L) (q:GdC B C L d) (K:L.length≤300) (J:C≤10000) (G:0≤B) (f c sd:Int) (n:Bool) (b i j g:Int) (r:lineB f c=true) (l : -24≤c∧c≤24) (m:sd=1∨sd=-1) (a:0≤b) {t v:Option Addr} (o p s u:Nat) (w:World) (F:StC (W*H) L d a0 c0 t v w) (hs:Steps w) :
  Cl 13 #[.agg #[I (W:Int),I (H:Int),.slice a0 (W*H) o,.slice c0 d.cs.length p,.slice t L.length s,.slice v (gS L d).length u],.agg #[I f,I c,I sd,.bool n,I b,I i,I j,I g]] w fun e w'=>LayW w w' (W:Int) (H:Int) (P5x (B+48) (C+96) (W*H) L) e :=
 do_gc N q J G f c sd n b i j g r l m a o p s u w F hs (fun y V h z k O P E D pa pc A _ M _ x=>held_gc w hs K f c sd n b i j g r a q.mo.1 y V h z k O P E D pa pc A M x)
def FuX (w wx:World) (W H:Nat) (i:Nat) (v:Value):Prop:=SB4 wx (w.heap.size+1) (I (W:Int)) (I (H:Int)) v SN∧SB4 wx w.heap.size (I 0) (I 0) SN SN∧wx.ownsRow (w.heap.size+2) 3 1 v i (f15 i)∧Bl w wx
theorem full_xy (W H N:Nat) (E:(W:Int)*(H:Int)=(N:Int)) (D:N≤64) (w:World):Cl 12 #[I (W:Int),I (H:Int)] w fun e w'=>∃ a g,e=.returned (.agg #[I (W:Int),I (H:Int),.slice a N g,SN])∧w'.ownsRow w.heap.size 3 1 (.slice a N g) N (f15 N)∧Bl w w':=by
 obtain ⟨i3,o⟩:=info_parts infI;have h:=Hd o;clear o;go_enter Tryz.func12,Tryz.ntmps12;go_wp2;go_loopg [6] N (fun u A B=>∃ i:Nat,i≤N∧u=N - i∧A=I (i:Int)∧∃ v,FuX w B W H i v)
 case atStart=>exact ⟨0,γ,rfl,rfl,SN,by simp [SB4,go_sem],by simp [SB4,go_sem],⟨by simp [f15],Or.inl ⟨rfl,rfl⟩⟩,by with_reducible repeat' (first | exact Qd _ | refine Qc ?_)⟩
 case round =>
  obtain ⟨i,hi,rfl,rfl,v,n⟩:=hrel;have c:=Hd n;clear n;obtain ⟨⟨⟨a0,a1,r,a3⟩,g0,g1,g2,g3⟩,⟨⟨b0,b1,b2,b3⟩,k0,k1,k2,k3⟩,_,_⟩:=c.out;have z1:=bk a0;have z0:=bk b0;dsimp only at z0 z1;by_cases h1:i<N
  ·have y:(i:Int)<(N:Int):=γ;go_wp2_with (at_builtin;refine wpList_append_own _ rfl (.tmp 18) (.tmp 19) 23 rfl (w.heap.size+2) 3 i3 (I 0) 1 8 Tryz.underlying23 h.out.1 h.out.2.1 h.out.2.2.1 h.out.2.2.2 rfl τ v i (f15 i) rfl (Qh c.out.2.2.1 β1) ⟨wr.heap.size,0,none⟩ 1 1 [I 15] rfl rfl (one_int _ _ _) (Jx _) Γ γ (by have:=c.out.2.2.2.size;simp;omega) ?gA)
   case gA =>
    intro v' j d b _;obtain ⟨a9,m,s,_⟩:=Qt d;subst s
    have l:Hid (FuX w (j.setCell ⟨w.heap.size+1,2,none⟩ (.slice a9 (i+1) m)) W H (i+1) (.slice a9 (i+1) m)∧SB4 j (w.heap.size+1) (I (W:Int)) (I (H:Int)) v SN):=by
     have f:=Qn c.out.2.2.1;have n1:some (w.heap.size+1)≠v.ownBlock:=fun e=>by have:=f _ e.symm;omega
     have n0:some w.heap.size≠v.ownBlock:=fun e=>by have:=f _ e.symm;omega
     have q:=(c.out.1.kept β1).grown b n1;have z:=(c.out.2.1.kept β1).grown b n0;refine ⟨⟨q.set2,z.grown (Qg j (w.heap.size+1) 2 _) (fun e=>absurd (Option.some.inj e) γ),Qx ?_ γ, ?_⟩,q⟩
     ·rw [f15_one];exact d
     ·exact Qk ((Qc c.out.2.2.2).grown b (Qc c.out.2.2.2).size (fun k x=>by have:=f k x;omega)) θ
    obtain ⟨⟨c0,c1,c2,c3⟩,e0,e1,e2,C⟩:=l.out.2;have z3:=bk c0;dsimp only at z3;clear d b a0 a1 r a3 g0 g1 g2 g3 b0 b1 b2 b3 k0 k1 k2 k3 z1 z0;go_wp2;go_roundg (N - (i+1))
    case measure=>omega
    case rel=>exact ⟨i+1,γ,rfl,σ,_,l.out.1⟩
  ·obtain rfl:i=N:=γ;have y:¬ (i:Int)<(i:Int):=γ;obtain ⟨a,g,t,_⟩:=Qt c.out.2.2.1;subst t;have p:w.heap.size≤w.heap.size+2:=γ;go_wp2;refine bodyPost_ret (v:=.agg #[I (W:Int),I (H:Int),.slice a i g,SN]) (by simp [results,Tryz.results12,go_sem,b0,b1,b2,b3]) rfl ⟨a,g,rfl, ?_, ?_⟩
   ·refine Jo (b1:=w.heap.size+2) ?_ γ;with_reducible repeat (refine Qx ?_ γ)
    exact c.out.2.2.1
   ·with_reducible repeat (refine Qk ?_ ?_)
    all_goals first | exact c.out.2.2.2 | (dsimp only;omega)
def FB8 (w:World) (b:Nat) (v0 v1 v2 v3 v4 v5 v6 v7:Value):Prop:=(At w b 0 v0∧At w b 1 v1∧At w b 2 v2∧At w b 3 v3∧At w b 4 v4∧At w b 5 v5∧At w b 6 v6∧At w b 7 v7)∧(Fn w b 0∧Fn w b 1∧Fn w b 2∧Fn w b 3∧Fn w b 4∧Fn w b 5∧Fn w b 6∧Fn w b 7)
theorem FB8.kept {v0 g i:Value} (h:FB8 w b v0 e f v3 v4 v5 g i) (hb:Bl w w'):FB8 w' b v0 e f v3 v4 v5 g i:=by
 obtain ⟨⟨a0,a1,a,a3,a4,a5,c,d⟩,f0,f1,f2,f3,f4,j,f6,k⟩:=h;exact ⟨⟨Qa hb a0,Qa hb a1,Qa hb a,Qa hb a3,Qa hb a4,Qa hb a5,Qa hb c,Qa hb d⟩,Qf hb a0 f0,Qf hb a1 f1,Qf hb a f2,Qf hb a3 f3,Qf hb a4 f4,Qf hb a5 j,Qf hb c f6,Qf hb d k⟩
theorem FB8.grown {v0 c:Value} {row:Option Nat} (h:FB8 w b v0 c d v3 v4 v5 e f) (hg:w.grownBy w' row) (a:some b≠row):FB8 w' b v0 c d v3 v4 v5 e f:=by
 obtain ⟨⟨a0,a1,g,a3,a4,a5,i,j⟩,f0,f1,f2,f3,f4,k,f6,l⟩:=h;have hb:=hg.block b (bk a0) a;exact ⟨⟨hg.cell a0 a,hg.cell a1 a,hg.cell g a,hg.cell a3 a,hg.cell a4 a,hg.cell a5 a,hg.cell i a,hg.cell j a⟩,(Fo hb).trans f0,(Fo hb).trans f1,(Fo hb).trans f2,(Fo hb).trans f3,(Fo hb).trans f4,(Fo hb).trans k,(Fo hb).trans f6,(Fo hb).trans l⟩
theorem fresh8 (w:World):FB8 (w.alloc (.cells #[I 0,I 0,I 0,.bool false,I 0,I 0,I 0,I 0] 58)) w.heap.size (I 0) (I 0) (I 0) (.bool false) (I 0) (I 0) (I 0) (I 0):=by
 simp [FB8,go_sem]
theorem Yk (hg:w.heap.size=g) (hb:Below (w.alloc (.cells #[I 0,I 0,I 0,.bool false,I 0,I 0,I 0,I 0] 58)).heap.size (w.alloc (.cells #[I 0,I 0,I 0,.bool false,I 0,I 0,I 0,I 0] 58)) a):FB8 a g (I 0) (I 0) (I 0) (.bool false) (I 0) (I 0) (I 0) (I 0):=hg ▸ (fresh8 w).kept hb
theorem fresh8_d (hg:w.heap.size=g) (hb:Below (w.alloc (.cells #[I 0,I 0,I 0,.bool false,I 0,I 0,I 0,I 0] 58)).drew.heap.size (w.alloc (.cells #[I 0,I 0,I 0,.bool false,I 0,I 0,I 0,I 0] 58)).drew a):FB8 a g (I 0) (I 0) (I 0) (.bool false) (I 0) (I 0) (I 0) (I 0):=Yk hg (Qb (Qe (Qd _)) hb)
theorem fresh4 (w:World):SB4 (w.alloc (.cells #[I 0,I 0,I 0,SN] 109)) w.heap.size (I 0) (I 0) (I 0) SN:=by
 simp [SB4,go_sem]
theorem fresh4_a (hg:w.heap.size=g) (hb:Below (w.alloc (.cells #[I 0,I 0,I 0,SN] 109)).heap.size (w.alloc (.cells #[I 0,I 0,I 0,SN] 109)) a):SB4 a g (I 0) (I 0) (I 0) SN:=hg ▸ (fresh4 w).kept hb
theorem fresh4_d (hg:w.heap.size=g) (hb:Below (w.alloc (.cells #[I 0,I 0,I 0,SN] 109)).drew.heap.size (w.alloc (.cells #[I 0,I 0,I 0,SN] 109)).drew a):SB4 a g (I 0) (I 0) (I 0) SN:=fresh4_a hg (Qb (Qe (Qd _)) hb)
def StpTo (w w':World) (e:Ending):Prop := ∃ (wy c sd:Int) (ov:Bool) (ly ax ay ak:Int),e=.returned (.agg #[I wy,I c,I sd,.bool ov,I ly,I ax,I ay,I ak])∧lineB wy c=true∧(-24≤c∧c≤24)∧(sd=1∨sd=-1)∧0≤ly∧Bl w w'
theorem step_fold (n0 n1 n2 n4 n5:Int) (n3:Bool) (W H:Int) (z2 z3 z4:Value) (sp:Option Addr) (M sc:Nat) (w:World)
  (H0 : -9223372036854775808≤n0∧n0≤9223372036854775807) (H1 : -9223372036854775808≤n1∧n1≤9223372036854775807) (H2 : -9223372036854775808≤n2∧n2≤9223372036854775807) (H4 : -9223372036854775808≤n4∧n4≤9223372036854775807) (H5 : -9223372036854775808≤n5∧n5≤9223372036854775807) (S:List (T3×List T3)) (b5:M=S.length) (az:S.length≤300) (ay:∀ s∈S,1≤s.2.length∧s.2.length≤300) (b6:SRow w sp S) (b7:Steps w) :
  Cl 14 #[.agg #[I n0,I n1,I n2,.bool n3,I n4,I n5],.agg #[I W,I H,z2,z3,z4,.slice sp M sc]] w fun e w'=>StpTo w w' e:=by
 obtain ⟨L,au,b0⟩:∃ p,p=pkN n0 4∧0≤p∧p<4:=⟨_,rfl,Yg _ τ⟩;obtain ⟨p1,av,b1⟩:∃ p,p=pkN n1 21∧0≤p∧p<21:=⟨_,rfl,Yg _ τ⟩;obtain ⟨p2,aw,b2⟩:∃ p,p=pkN n2 2∧0≤p∧p<2:=⟨_,rfl,Yg _ τ⟩;have C0:Hid (∀ V:World,Rt 5 #[I n0,I 4] V (I L)):=fun V=>by rw [au];exact Jn n0 4 τ H0.1 H0.2 V
 have C1:Hid (∀ V:World,Rt 5 #[I n1,I 21] V (I p1)):=fun V=>by rw [av];exact Jn n1 21 τ H1.1 H1.2 V
 have C2:Hid (∀ V:World,Rt 5 #[I n2,I 2] V (I p2)):=fun V=>by rw [aw];exact Jn n2 2 τ H2.1 H2.2 V
 obtain ⟨p4,ax,b4⟩:∃ p,p=pkN n4 3∧0≤p∧p<3:=⟨_,rfl,Yg _ τ⟩;have C4:Hid (∀ V:World,Rt 5 #[I n4,I 3] V (I p4)):=fun V=>by rw [ax];exact Jn n4 3 τ H4.1 H4.2 V
 have HS:Hid (M=S.length∧S.length≤300∧(∀ s∈S,1≤s.2.length∧s.2.length≤300)∧SRow w sp S∧Steps w∧(-9223372036854775808≤n5∧n5≤9223372036854775807)):=⟨b5,az,ay,b6,b7,H5⟩;clear au av aw ax H0 H1 H2 H4 H5 b5 az ay b6 b7;go_enter Tryz.func14,Tryz.ntmps14;go_upto_region 1 with fail
 refine Qj (fun V T=>?_);have hB:Bl w V:=by rw [T];exact Qc β2
 have q0:At V w.heap.size 0 (I n0):=by rw [T];simp [go_sem]
 have q1:At V w.heap.size 1 (I n1):=by rw [T];simp [go_sem]
 have q2:At V w.heap.size 2 (I n2):=by rw [T];simp [go_sem]
 have q3:At V w.heap.size 3 (.bool n3):=by rw [T];simp [go_sem]
 have q4:At V w.heap.size 4 (I n4):=by rw [T];simp [go_sem]
 have q5:At V w.heap.size 5 (I n5):=by rw [T];simp [go_sem]
 have qs:At V (w.heap.size+1) 5 (.slice sp M sc):=by rw [T];simp [go_sem]
 have qt:FB8 V (w.heap.size+1+1) (I 0) (I 0) (I 0) (.bool false) (I 0) (I 0) (I 0) (I 0):=by rw [T];simp [FB8,go_sem]
 have HV:Hid (At V w.heap.size 4 (I n4)∧At V w.heap.size 5 (I n5)∧At V (w.heap.size+1) 5 (.slice sp M sc)∧FB8 V (w.heap.size+1+1) (I 0) (I 0) (I 0) (.bool false) (I 0) (I 0) (I 0) (I 0)):=⟨q4,q5,qs,qt⟩;clear q4 q5 qs qt;have HB:Hid (Bl w V):=hB;have zV:=Bt q0;clear T hB;go_cut [5] (fun s5 wx=>∃ g,s5=.pointer (Az g)∧V.heap.size≤g∧FB8 wx g (I L) (I (IntKind.i64.wrap (2*IntKind.i64.wrap (p1 - 8)))) (I (IntKind.i64.wrap (1 - IntKind.i64.wrap (2*p2)))) (.bool n3) (I 0) (I 0) (I 0) (I 0)∧Bl V wx)
 case first =>
  have i:Hid (Bl V V):=Qd V
  go_region_held3 (fun w'=>At w' w.heap.size 0 (I n0)∧At w' w.heap.size 1 (I n1)∧At w' w.heap.size 2 (I n2)∧At w' w.heap.size 3 (.bool n3))
   ((refine ⟨?_, ?_, ?_, ?_⟩ <;> (repeat' (first | (with_reducible assumption) | (with_reducible refine Jt ?_ ?_) | (dsimp only;omega) | (simp [go_sem];done) | (simp;omega) | (with_reducible refine Ql ?_) | (with_reducible refine Qi ?_)))))
   (first
    | (go_at_call 5;(with_reducible refine (C0.out _).mono ?_);rintro e P ⟨rfl,hb⟩;have Y:=Qa (a:=⟨w.heap.size,0,none⟩) (v:=I n0) hb δ;have bb:=Qa (a:=⟨w.heap.size,1,none⟩) (v:=I n1) hb δ;have bc:=Qa (a:=⟨w.heap.size,2,none⟩) (v:=I n2) hb δ;have be:=Qa (a:=⟨w.heap.size,3,none⟩) (v:=.bool n3) hb δ;(first | (have f:=A.kept hb;clear A;have A:=f;obtain ⟨⟨j,k,o,r,B,C,D,E⟩,u,x,y,z,F,G,J,K⟩:=f) | (have f:=Yk (g:=V.heap.size) rfl hb;have A:=f;obtain ⟨⟨j,k,o,r,B,C,D,E⟩,u,x,y,z,F,G,J,K⟩:=f) | (have f:=fresh8_d (g:=V.heap.size) rfl hb;have A:=f;obtain ⟨⟨j,k,o,r,B,C,D,E⟩,u,x,y,z,F,G,J,K⟩:=f) | (have f:=Yk rfl hb;have A:=f;obtain ⟨⟨j,k,o,r,B,C,D,E⟩,u,x,y,z,F,G,J,K⟩:=f) | skip);have zs:=Bt Y;have hq:=hb.size;have U:Bl V P:=Qb (by with_reducible repeat (first | exact i.out | refine Qe ?_ | refine Qc ?_)) hb;clear i;have i:Hid (Bl V P):=U;clear U;have hv:=i.out.size;clear hb)
    | (go_at_call 5;(with_reducible refine (C1.out _).mono ?_);rintro e P ⟨rfl,hb⟩;have Y:=Qa (a:=⟨w.heap.size,0,none⟩) (v:=I n0) hb δ;have bb:=Qa (a:=⟨w.heap.size,1,none⟩) (v:=I n1) hb δ;have bc:=Qa (a:=⟨w.heap.size,2,none⟩) (v:=I n2) hb δ;have be:=Qa (a:=⟨w.heap.size,3,none⟩) (v:=.bool n3) hb δ;(first | (have f:=A.kept hb;clear A;have A:=f;obtain ⟨⟨j,k,o,r,B,C,D,E⟩,u,x,y,z,F,G,J,K⟩:=f) | (have f:=Yk (g:=V.heap.size) rfl hb;have A:=f;obtain ⟨⟨j,k,o,r,B,C,D,E⟩,u,x,y,z,F,G,J,K⟩:=f) | (have f:=fresh8_d (g:=V.heap.size) rfl hb;have A:=f;obtain ⟨⟨j,k,o,r,B,C,D,E⟩,u,x,y,z,F,G,J,K⟩:=f) | (have f:=Yk rfl hb;have A:=f;obtain ⟨⟨j,k,o,r,B,C,D,E⟩,u,x,y,z,F,G,J,K⟩:=f) | skip);have zs:=Bt Y;have hq:=hb.size;have U:Bl V P:=Qb (by with_reducible repeat (first | exact i.out | refine Qe ?_ | refine Qc ?_)) hb;clear i;have i:Hid (Bl V P):=U;clear U;have hv:=i.out.size;clear hb)
    | (go_at_call 5;(with_reducible refine (C2.out _).mono ?_);rintro e P ⟨rfl,hb⟩;have Y:=Qa (a:=⟨w.heap.size,0,none⟩) (v:=I n0) hb δ;have bb:=Qa (a:=⟨w.heap.size,1,none⟩) (v:=I n1) hb δ;have bc:=Qa (a:=⟨w.heap.size,2,none⟩) (v:=I n2) hb δ;have be:=Qa (a:=⟨w.heap.size,3,none⟩) (v:=.bool n3) hb δ;(first | (have f:=A.kept hb;clear A;have A:=f;obtain ⟨⟨j,k,o,r,B,C,D,E⟩,u,x,y,z,F,G,J,K⟩:=f) | (have f:=Yk (g:=V.heap.size) rfl hb;have A:=f;obtain ⟨⟨j,k,o,r,B,C,D,E⟩,u,x,y,z,F,G,J,K⟩:=f) | (have f:=fresh8_d (g:=V.heap.size) rfl hb;have A:=f;obtain ⟨⟨j,k,o,r,B,C,D,E⟩,u,x,y,z,F,G,J,K⟩:=f) | (have f:=Yk rfl hb;have A:=f;obtain ⟨⟨j,k,o,r,B,C,D,E⟩,u,x,y,z,F,G,J,K⟩:=f) | skip);have zs:=Bt Y;have hq:=hb.size;have U:Bl V P:=Qb (by with_reducible repeat (first | exact i.out | refine Qe ?_ | refine Qc ?_)) hb;clear i;have i:Hid (Bl V P):=U;clear U;have hv:=i.out.size;clear hb)
    | fail)
  all_goals
   go_wp2;go_meet
   case rel =>
    refine ⟨_,rfl, ?_, ?_, ?_⟩
    ·first | exact Nr _ | omega | (simp;omega)
    ·first | (simp [FB8,go_sem];done) | (simp [FB8,go_sem, *];done)
    ·with_reducible repeat' (first | exact i.out | refine Qk ?_ ?_ | refine Qc ?_ | refine Qe ?_)
     all_goals (first | omega | (dsimp only;omega) | (simp;done) | (simp;omega))
 case rest =>
  obtain ⟨g,rfl,hg,hF,R⟩:=hcut;have N:Hid (Bl w wc):=Qb HB.out R;obtain ⟨a4,a5,a6,ah⟩:=HV.out;have HT:Hid (FB8 wc (w.heap.size+1+1) (I 0) (I 0) (I 0) (.bool false) (I 0) (I 0) (I 0) (I 0)∧w.heap.size+1+1<V.heap.size∧V.heap.size≤g):=⟨ah.kept R,bk ah.1.1,hg⟩;have HF:Hid (FB8 wc g (I L) (I (IntKind.i64.wrap (2*IntKind.i64.wrap (p1 - 8)))) (I (IntKind.i64.wrap (1 - IntKind.i64.wrap (2*p2)))) (.bool n3) (I 0) (I 0) (I 0) (I 0)):=hF;have c4:=Qa R a4;have c5:=Qa R a5;have cs:=Qa R a6;clear a4 a5 a6 ah hg hF R HV q0 q1 q2 q3 zV;by_cases k4:p4=0
  ·have k5:(p4 == 0)=true:=by rw [beq_iff_eq];exact k4
   by_cases ks:M=0
   ·have k7:¬ (M:Int) > 0:=γ;have k8:¬ (0:Int)<(M:Int):=γ;have k9:decide ((0:Int)<(M:Int))=false:=by rw [decide_eq_false_iff_not];omega
    have kk:decide (p4=0)=true:=by rw [decide_eq_true_iff];exact k4
    go_wp2_with (first
     | (go_at_call 5;go_must (with_reducible refine (C4.out _).mono ?_);rintro e P ⟨rfl,hb⟩;go_must (have HW:Hid (Bl w P):=Qb N.out hb);go_must (obtain ⟨⟨t0,t1,t2,t3,t4,t5,t6,t7⟩,u0,u1,u2,u3,u4,u5,u6,u7⟩:=HT.out.1.kept hb);go_must (obtain ⟨⟨f0,f1,f2,f3,f4,f5,f6,f7⟩,_⟩:=HF.out.kept hb);go_must (have hh:=HT.out.2);have d5:=Qa hb cs;have d6:=Qa hb c5;clear hb)
     | fail)
    refine bodyPost_ret (v:=.agg #[I L,I (2*(p1 - 8)),I (1 - 2*p2),.bool n3,I 0,I 0,I 0,I 0]) ?_ rfl ?_
    ·simp [results,Tryz.results14,go_sem,t0,t1,t2,t3,t4,t5,t6,t7]
    refine ⟨L,2*(p1 - 8),1 - 2*p2,n3,0,0,0,0,rfl,by rw [lineB,decide_eq_true_iff];omega,γ,γ,γ, ?_⟩;with_reducible repeat (refine Qk ?_ ?_)
    all_goals first | exact HW.out | (dsimp only;omega)
   ·obtain ⟨q,hq,bi⟩:∃ q:Nat,pkN n5 (M:Int)=(q:Int)∧q<M:=by
     obtain ⟨h1,h2⟩:=Yg n5 (m:=(M:Int)) γ;obtain ⟨q,e⟩:=Int.eq_ofNat_of_zero_le h1;exact ⟨q,e,γ⟩
    have am:q<S.length:=by rw [← HS.out.1];exact bi
    have C5:Hid (∀ V:World,Rt 5 #[I n5,I (M:Int)] V (I (q:Int))):=fun V=>by
     have:=Jn n5 (M:Int) (by have:=HS.out.2.1;have:=HS.out.1;omega) HS.out.2.2.2.2.2.1 HS.out.2.2.2.2.2.2 V;rw [hq] at this;exact this
    obtain ⟨gs,sa,sd,rfl,a0,a1,a2,a3,hT⟩:=HS.out.2.2.2.1 q am;obtain ⟨m1,m2⟩:=HS.out.2.2.1 S[q] (Lm am);obtain ⟨m,hm⟩:∃ m,m=S[q].2.length:=⟨_,rfl⟩;obtain ⟨tx,b9⟩:∃ t,t=S[q].1.1:=⟨_,rfl⟩;obtain ⟨ty,ba⟩:∃ t,t=S[q].1.2.1:=⟨_,rfl⟩;obtain ⟨tk,b8⟩:∃ t,t=S[q].1.2.2:=⟨_,rfl⟩;rw [← b9] at a0;rw [← ba] at a1;rw [← b8] at a2;rw [← hm] at a3 m1 m2;have af:Hid (Steps w):=HS.out.2.2.2.2.1;clear hT hm b9 ba b8 hq am HS;have x0:=Qa N.out a0;have x1:=Qa N.out a1;have x2:=Qa N.out a2;have x3:=Qa N.out a3;clear a0 a1 a2 a3;have zs:=Bt x0;have k7:(M:Int) > 0:=γ;have k8:(0:Int)<(M:Int):=γ;have k9:decide ((0:Int)<(M:Int))=true:=by rw [decide_eq_true_iff];omega
    have kk:decide (p4=0)=true:=by rw [decide_eq_true_iff];exact k4
    have q0:(0:Int)≤(q:Int):=γ;have q1:(q:Int)<(M:Int):=γ
    go_upto_region 3 with (first
     | (go_at_call 5;go_must (with_reducible refine (C4.out _).mono ?_);rintro e O ⟨rfl,hb⟩;go_must (have HW:Hid (Bl w O∧Bl wc O):=⟨Qb N.out hb,hb⟩);have y6:=Qa hb cs;have y5:=Qa hb c5;have y4:=Qa hb c4;replace x0:=Qa hb x0;replace x1:=Qa hb x1;replace x2:=Qa hb x2;replace x3:=Qa hb x3;replace zs:=Nl zs hb.size;have zw:=Bt y6;clear hb cs c5 c4)
     | fail)
    have ae:Hid (FB8 O g (I L) (I (IntKind.i64.wrap (2*IntKind.i64.wrap (p1 - 8)))) (I (IntKind.i64.wrap (1 - IntKind.i64.wrap (2*p2)))) (.bool n3) (I 0) (I 0) (I 0) (I 0)):=HF.out.kept HW.out.2;have ag:Hid (FB8 O (w.heap.size+1+1) (I 0) (I 0) (I 0) (.bool false) (I 0) (I 0) (I 0) (I 0)∧w.heap.size+1+1<V.heap.size∧V.heap.size≤g∧g<O.heap.size):=⟨HT.out.1.kept HW.out.2,HT.out.2.1,HT.out.2.2,bk ae.out.1.1⟩;have bf:Hid (Steps O):=af.out.kept HW.out.1;go_cut [6] (fun s6 wx=>∃ b,s6=.pointer (Az b)∧O.heap.size≤b∧SB4 wx b (I tx) (I ty) (I tk) (.slice sa m sd)∧Bl O wx)
    case first =>
     have i:Hid (Bl O O):=Qd O
     go_region_held3 (fun w'=>At w' w.heap.size 5 (I n5)∧At w' (w.heap.size+1) 5 (.slice (Az gs) M sc)∧At w' gs (q*4) (I tx)∧At w' gs (q*4+1) (I ty)∧At w' gs (q*4+2) (I tk)∧At w' gs (q*4+3) (.slice sa m sd))
      ((refine ⟨?_, ?_, ?_, ?_, ?_, ?_⟩ <;> (repeat' (first | (with_reducible assumption) | (with_reducible refine Jt ?_ ?_) | (dsimp only;omega) | (simp [go_sem];done) | (simp;omega) | (with_reducible refine Ql ?_) | (with_reducible refine Qi ?_)))))
      (first
       | (go_at_call 5;(with_reducible refine (C5.out _).mono ?_);rintro e P ⟨rfl,hb⟩;have bs:=Qa (a:=⟨w.heap.size,5,none⟩) (v:=I n5) hb δ;have bm:=Qa (a:=⟨w.heap.size+1,5,none⟩) (v:=.slice (some ⟨gs,0,none⟩) M sc) hb δ;have bj:=Qa (a:=⟨gs,q*4,none⟩) (v:=I tx) hb δ;have bp:=Qa (a:=⟨gs,q*4+1,none⟩) (v:=I ty) hb δ;have bq:=Qa (a:=⟨gs,q*4+2,none⟩) (v:=I tk) hb δ;have br:=Qa (a:=⟨gs,q*4+3,none⟩) (v:=.slice sa m sd) hb δ;(first | (have f:=A.kept hb;clear A;have A:=f;obtain ⟨⟨j,k,o,r⟩,u,x,y,z⟩:=f) | (have f:=fresh4_a (g:=O.heap.size) rfl hb;have A:=f;obtain ⟨⟨j,k,o,r⟩,u,x,y,z⟩:=f) | (have f:=fresh4_d (g:=O.heap.size) rfl hb;have A:=f;obtain ⟨⟨j,k,o,r⟩,u,x,y,z⟩:=f) | (have f:=fresh4_a rfl hb;have A:=f;obtain ⟨⟨j,k,o,r⟩,u,x,y,z⟩:=f) | skip);have bt:=Bt bj;have bu:=Bt bm;have hq:=hb.size;have U:Bl O P:=Qb (by with_reducible repeat (first | exact i.out | refine Qe ?_ | refine Qc ?_)) hb;clear i;have i:Hid (Bl O P):=U;clear U;have hv:=i.out.size;clear hb)
       | fail)
     all_goals
      go_wp2;go_meet
      case rel =>
       refine ⟨_,rfl, ?_, ?_, ?_⟩
       ·first | exact Nr _ | omega | (simp;omega)
       ·first | (simp [SB4,go_sem];done) | (simp [SB4,go_sem, *];done)
       ·with_reducible repeat' (first | exact i.out | refine Qk ?_ ?_ | refine Qc ?_ | refine Qe ?_)
        all_goals (first | omega | (dsimp only;omega) | (simp;done) | (simp;omega))
    case rest =>
     obtain ⟨b,rfl,hb,hX,X⟩:=hcut;have HX:Hid (SB4 wc b (I tx) (I ty) (I tk) (.slice sa m sd)):=hX;have ao:Hid (Bl w wc):=Qb HW.out.1 X;obtain ⟨c,hc⟩:∃ c,c=2*(p1 - 8):=⟨_,rfl⟩;obtain ⟨d,hd⟩:∃ d,d=1 - 2*p2:=⟨_,rfl⟩;have ak:lineB L c=true:=by rw [lineB,decide_eq_true_iff];omega
     have ar : -24≤c∧c≤24:=γ;have bh:d=1∨d=-1:=γ
     have HG:Hid (FB8 wc g (I L) (I c) (I d) (.bool n3) (I 0) (I 0) (I 0) (I 0)):=by
      have e1:IntKind.i64.wrap (2*IntKind.i64.wrap (p1 - 8))=c:=by rw [IntKind.wrap_i64,IntKind.wrap_i64];omega
      have e2:IntKind.i64.wrap (1 - IntKind.i64.wrap (2*p2))=d:=by rw [IntKind.wrap_i64,IntKind.wrap_i64];omega
      have h:=ae.out.kept X;rw [e1,e2] at h;exact h
     clear hc hd;have HZ:Hid (FB8 wc (w.heap.size+1+1) (I 0) (I 0) (I 0) (.bool false) (I 0) (I 0) (I 0) (I 0)):=ag.out.1.kept X;obtain ⟨o1,o2,o3⟩:=ag.out.2;have o4:g<b:=γ;have o5:g≠b:=γ;have o6:b≠g:=γ;have ac:=Qa X y4;have ad:Hid (Steps w):=af.out;clear hX X HW ae ag bf y4 y5 y6 x0 x1 x2 x3 zs zw HF HT N C4 C5 af;obtain ⟨⟨f0,f1,f2,f3,f4,f5,f6,f7⟩,u0,u1,u2,u3,u4,u5,u6,u7⟩:=HG.out;obtain ⟨⟨r0,r1,r2,r3⟩,_⟩:=HX.out;have Z:=bk f0;have zb:=bk r0;dsimp only at Z zb;go_upto_region 5 with fail
     refine Qj (fun W5 a7=>?_)
     have G5:Hid (FB8 W5 g (I L) (I c) (I d) (.bool n3) (I 0) (I tx) (I ty) (I tk)):=by
      have:FB8 W5 g (I L) (I c) (I d) (.bool n3) (I 0) (I tx) (I ty) (I tk):=by
       rw [a7];simp [FB8,go_sem, *]
      exact this
     have ap:Bl w W5:=by
      rw [a7];with_reducible repeat (refine Qk ?_ ?_)
      all_goals first | exact ao.out | (dsimp only;omega)
     have aa:wc.grownBy W5 (some g):=by
      rw [a7];exact ((Qg _ g 5 _).trans (Qg _ g 6 _)).trans (Qg _ g 7 _)
     have K5:Hid (Bl w W5∧SB4 W5 b (I tx) (I ty) (I tk) (.slice sa m sd)∧FB8 W5 (w.heap.size+1+1) (I 0) (I 0) (I 0) (.bool false) (I 0) (I 0) (I 0) (I 0)):=⟨ap,HX.out.grown aa (fun e=>o6 (Option.some.inj e)),HZ.out.grown aa (fun e=>by have:=Option.some.inj e;omega)⟩;replace ac:=aa.cell ac (fun e=>by have:=Option.some.inj e;dsimp only at this;omega);clear a7 ap aa HX ao HG HZ f0 f1 f2 f3 f4 f5 f6 f7 u0 u1 u2 u3 u4 u5 u6 u7 r0 r1 r2 r3 Z zb;obtain ⟨⟨f0,f1,f2,f3,f4,f5,f6,f7⟩,u0,u1,u2,u3,u4,u5,u6,u7⟩:=G5.out;obtain ⟨⟨r0,r1,r2,r3⟩,_⟩:=K5.out.2.1;have Z:=bk f0;have zb:=bk r0;have zw:=bk ac;dsimp only at Z zb zw;obtain ⟨l,hl,bn,bo⟩:∃ l,l=pkN (wrap64 (n4.tdiv 3)) (m:Int)∧0≤l∧l<(m:Int):=⟨_,rfl,Yg _ γ⟩
     have C6:Hid (∀ V:World,Rt 5 #[I (wrap64 (n4.tdiv 3)),I (m:Int)] V (I l)):=fun V=>by
      rw [hl];exact Jn (wrap64 (n4.tdiv 3)) (m:Int) γ (by unfold wrap64;omega) (by unfold wrap64;omega) V
     clear hl;go_upto_region 6 with (go_at_call 5;(with_reducible refine (C6.out _).mono ?_);rintro e w6 ⟨rfl,aj⟩;have H6:Hid (Bl W5 w6):=aj;clear f0 f1 f2 f3 f4 f5 f6 f7 u0 u1 u2 u3 u4 u5 u6 u7 r0 r1 r2 r3 Z zb zw ac;obtain ⟨⟨f0,f1,f2,f3,f4,f5,f6,f7⟩,u0,u1,u2,u3,u4,u5,u6,u7⟩:=G5.out.kept aj;have Z:=Bt f0;clear aj)
     refine Qj (fun W7 ai=>?_)
     have G7:Hid (FB8 W7 g (I L) (I c) (I d) (.bool n3) (I (1+l)) (I tx) (I ty) (I tk)):=by
      have:FB8 W7 g (I L) (I c) (I d) (.bool n3) (I (1+l)) (I tx) (I ty) (I tk):=by
       rw [ai];simp [FB8,go_sem, *]
      exact this
     have ab:w6.grownBy W7 (some g):=by
      rw [ai];exact Qg _ g 4 _
     have K7:Hid (Bl w W7∧SB4 W7 b (I tx) (I ty) (I tk) (.slice sa m sd)∧FB8 W7 (w.heap.size+1+1) (I 0) (I 0) (I 0) (.bool false) (I 0) (I 0) (I 0) (I 0)∧Steps W7):=by
      have hb:=Qb K5.out.1 H6.out;have aq:=hb.grown ab hb.size (fun q hq=>by cases hq;omega);exact ⟨aq,(K5.out.2.1.kept H6.out).grown ab (fun e=>o6 (Option.some.inj e)),(K5.out.2.2.kept H6.out).grown ab (fun e=>by have:=Option.some.inj e;omega),ad.out.kept aq⟩
     clear ai ab K5 H6 G5 ad f0 f1 f2 f3 f4 f5 f6 f7 u0 u1 u2 u3 u4 u5 u6 u7 Z C6
     have C9:Hid (∀ V:World,Steps V→Cl 9 #[.agg #[I L,I c],.agg #[I tx,I ty,I tk]] V fun e w'=>∃ n Q:Int,e=.returned (.tuple #[I n,I Q])∧(Q=0∧(n=1∨n=-1)∨Q=3)∧Bl V w'):=fun V T=>by
      cases ht:triB tx ty tk with
      | true =>
       refine (Vb L c tx ty tk V ht ak T).mono ?_;rintro e w' ⟨rfl,hb⟩;exact ⟨_,_,rfl,Or.inl ⟨rfl,by unfold sideN;split <;> simp⟩,hb⟩
      | false =>
       refine (Side_out L c tx ty tk V (Or.inr ht)).mono ?_;rintro e w' ⟨rfl,hb⟩;exact ⟨_,_,rfl,Or.inr rfl,hb⟩
     obtain ⟨⟨f0,f1,f2,f3,f4,f5,f6,f7⟩,u0,u1,u2,u3,u4,u5,u6,u7⟩:=G7.out;obtain ⟨⟨r0,r1,r2,r3⟩,_⟩:=K7.out.2.1;have Z:=bk f0;have zb:=bk r0;dsimp only at Z zb;go_upto_region 7 with (go_at_call 9;(with_reducible refine (C9.out _ K7.out.2.2.2).mono ?_);rintro e w9 ⟨n,Q,rfl,bg,a8⟩;have H9:Hid (Bl W7 w9):=a8;clear f0 f1 f2 f3 f4 f5 f6 f7 u0 u1 u2 u3 u4 u5 u6 u7 r0 r1 r2 r3 Z zb;obtain ⟨⟨f0,f1,f2,f3,f4,f5,f6,f7⟩,u0,u1,u2,u3,u4,u5,u6,u7⟩:=G7.out.kept a8;obtain ⟨⟨t0,t1,t2,t3,t4,t5,t6,t7⟩,v0,v1,v2,v3,v4,v5,v6,v7⟩:=K7.out.2.2.1.kept a8;have Z:=Bt f0;have zt:=Bt t0;clear a8)
     have an:Hid (Bl w w9):=Qb K7.out.1 H9.out;rcases bg with ⟨rfl,hn⟩ | rfl
     ·go_wp2;refine bodyPost_ret (v:=.agg #[I L,I c,I n,.bool n3,I (1+l),I tx,I ty,I tk]) ?_ rfl ?_
      ·simp [results,Tryz.results14,go_sem, *]
      refine ⟨L,c,n,n3,1+l,tx,ty,tk,rfl,ak,ar,hn,γ, ?_⟩;with_reducible repeat (refine Qk ?_ ?_)
      all_goals first | exact an.out | (dsimp only;omega)
     ·go_wp2;refine bodyPost_ret (v:=.agg #[I L,I c,I d,.bool n3,I (1+l),I tx,I ty,I tk]) ?_ rfl ?_
      ·simp [results,Tryz.results14,go_sem, *]
      refine ⟨L,c,d,n3,1+l,tx,ty,tk,rfl,ak,ar,bh,γ, ?_⟩;with_reducible repeat (refine Qk ?_ ?_)
      all_goals first | exact an.out | (dsimp only;omega)
  ·have k5:(p4 == 0)=false:=by rw [beq_eq_false_iff_ne];exact k4
   go_wp2_with (first
    | (go_at_call 5;go_must (with_reducible refine (C4.out _).mono ?_);rintro e P ⟨rfl,hb⟩;go_must (have HW:Hid (Bl w P):=Qb N.out hb);go_must (obtain ⟨⟨t0,t1,t2,t3,t4,t5,t6,t7⟩,u0,u1,u2,u3,u4,u5,u6,u7⟩:=HT.out.1.kept hb);go_must (obtain ⟨⟨f0,f1,f2,f3,f4,f5,f6,f7⟩,_⟩:=HF.out.kept hb);go_must (have hh:=HT.out.2);have d5:=Qa hb cs;have d6:=Qa hb c5;clear hb)
    | fail)
   refine bodyPost_ret (v:=.agg #[I L,I (2*(p1 - 8)),I (1 - 2*p2),.bool n3,I 0,I 0,I 0,I 0]) ?_ rfl ?_
   ·simp [results,Tryz.results14,go_sem,t0,t1,t2,t3,t4,t5,t6,t7]
   refine ⟨L,2*(p1 - 8),1 - 2*p2,n3,0,0,0,0,rfl,by rw [lineB,decide_eq_true_iff];omega,γ,γ,γ, ?_⟩;with_reducible repeat (refine Qk ?_ ?_)
   all_goals first | exact HW.out | (dsimp only;omega)
theorem BX6.grown {c g i:Value} {row:Option Nat} (h:BX6 w b c d e f g i) (hg:w.grownBy w' row) (a:some b≠row):BX6 w' b c d e f g i:=by
 obtain ⟨⟨h0,h1,h2,h3,h4,h5⟩,f0,f1,f2,f3,f4,j⟩:=h;have hl:=bk h0;have fz:∀ o,Fn w b o→Fn w' b o:=fun o k=>(Fo (hg.block b hl a)).trans k;exact ⟨⟨hg.cell h0 a,hg.cell h1 a,hg.cell h2 a,hg.cell h3 a,hg.cell h4 a,hg.cell h5 a⟩,fz _ f0,fz _ f1,fz _ f2,fz _ f3,fz _ f4,fz _ j⟩
theorem gr_refl (w:World) (r:Option Nat):w.grownBy w r:=⟨rfl,rfl,rfl,Nr _,fun _ _ _=>rfl⟩
theorem gr_set {v:Value} (h:a.grownBy w (some b)):a.grownBy (w.setCell ⟨b,i,none⟩ v) (some b):=h.trans (Qg w b i v)
theorem freshS (w:World):BX6 (w.alloc (.cells #[I 0,I 0,SN,SN,SN,SN] 30)) w.heap.size (I 0) (I 0) SN SN SN SN:=by simp [BX6,go_sem]
theorem Zb (hg:w.heap.size=g) (hb:Below (w.alloc (.cells #[I 0,I 0,SN,SN,SN,SN] 30)).heap.size (w.alloc (.cells #[I 0,I 0,SN,SN,SN,SN] 30)) a):BX6 a g (I 0) (I 0) SN SN SN SN:=hg ▸ (freshS w).kept hb
theorem freshS_d (hg:w.heap.size=g) (hb:Below (w.alloc (.cells #[I 0,I 0,SN,SN,SN,SN] 30)).drew.heap.size (w.alloc (.cells #[I 0,I 0,SN,SN,SN,SN] 30)).drew a):BX6 a g (I 0) (I 0) SN SN SN SN:=Zb hg (Qb (Qe (Qd _)) hb)
def StepsR (w:World) (la:Option Addr) (n:Nat):Prop := ∀ i,i<n→∃ g off m0 m1 m2 m3 m4 m5,la=Ad g off∧At w g (off+i*6) (I m0)∧At w g (off+i*6+1) (I m1)∧At w g (off+i*6+2) (I m2)∧At w g (off+i*6+3) (.bool m3)∧At w g (off+i*6+4) (I m4)∧At w g (off+i*6+5) (I m5)∧(-9223372036854775808≤m0∧m0≤9223372036854775807)∧(-9223372036854775808≤m1∧m1≤9223372036854775807)∧(-9223372036854775808≤m2∧m2≤9223372036854775807)∧(-9223372036854775808≤m4∧m4≤9223372036854775807)∧(-9223372036854775808≤m5∧m5≤9223372036854775807)
def DoTo (Z:Nat→Value→Value→Value→Value→World→Prop) (w w':World) (W H:Int) (e:Ending):Prop := ∃ (x0 x1:Int) (a2:Option Addr) (n2 c2:Nat) (a3:Option Addr) (n3 c3:Nat) (a4:Option Addr) (n4 c4:Nat) (a5:Option Addr) (n5 c5:Nat) (code:Int),e=.returned (.tuple #[.agg #[I x0,I x1,.slice a2 n2 c2,.slice a3 n3 c3,.slice a4 n4 c4,.slice a5 n5 c5],I code])∧(code=0→x0=W∧x1=H∧∃ base,Z base (.slice a2 n2 c2) (.slice a3 n3 c3) (.slice a4 n4 c4) (.slice a5 n5 c5) w'∧w.heap.size≤base)∧Bl w w'
def LpF (Z:Nat→Nat→Value→Value→Value→Value→World→Prop) (W H:Int) (b4:Nat) (w wx:World) (j:Nat):Prop := ∃ base a2 n2 c2 a3 n3 c3 a4 n4 c4 a5 n5 c5,BX6 wx b4 (I W) (I H) (.slice a2 n2 c2) (.slice a3 n3 c3) (.slice a4 n4 c4) (.slice a5 n5 c5)∧Z j base (.slice a2 n2 c2) (.slice a3 n3 c3) (.slice a4 n4 c4) (.slice a5 n5 c5) wx∧w.heap.size<base∧Bl w wx∧BX6 wx w.heap.size (I 0) (I 0) SN SN SN SN
def FldTo (Z:Nat→Nat→Value→Value→Value→Value→World→Prop) (w w':World) (W H:Int) (e:Ending):Prop := ∃ j base a2 n2 c2 a3 n3 c3 a4 n4 c4 a5 n5 c5,j≤4∧e=.returned (.tuple #[.agg #[I W,I H,.slice a2 n2 c2,.slice a3 n3 c3,.slice a4 n4 c4,.slice a5 n5 c5],.bool true])∧Z j base (.slice a2 n2 c2) (.slice a3 n3 c3) (.slice a4 n4 c4) (.slice a5 n5 c5) w'∧Bl w w'
theorem folded_w (Z:Nat→Nat→Value→Value→Value→Value→World→Prop) (p q W H:Int) (P:Nat) (hW:W=1+p) (hH:H=1+q) (hp:0≤p∧p<4) (hq:0≤q∧q<2) (r0 r1:Int) (la:Option Addr) (ln lc:Nat) (w:World)
  (hl:StepsR w la ln)
  (k5:∀ (V V':World) (j base:Nat) (d:Option Addr) (n2 c2:Nat) (a3:Option Addr) (n3 c3:Nat) (a4:Option Addr) (n4 c4:Nat) (a5:Option Addr) (n5 f:Nat),Z j base (.slice d n2 c2) (.slice a3 n3 c3) (.slice a4 n4 c4) (.slice a5 n5 f) V→Bl V V'→Z j base (.slice d n2 c2) (.slice a3 n3 c3) (.slice a4 n4 c4) (.slice a5 n5 f) V')
  (k6:∀ (V V':World) (j base b:Nat) (d:Option Addr) (n2 c2:Nat) (a3:Option Addr) (n3 c3:Nat) (a4:Option Addr) (n4 c4:Nat) (a5:Option Addr) (n5 f:Nat),Z j base (.slice d n2 c2) (.slice a3 n3 c3) (.slice a4 n4 c4) (.slice a5 n5 f) V→V.grownBy V' (some b)→b<base→Z j base (.slice d n2 c2) (.slice a3 n3 c3) (.slice a4 n4 c4) (.slice a5 n5 f) V')
  (h5:∀ V:World,Rt 5 #[I r0,I 4] V (I p))
  (h6:∀ V:World,Rt 5 #[I r1,I 2] V (I q))
  (am:∀ V:World,Bl w V→Cl 12 #[I W,I H] V fun e w'=>∃ a ca,e=.returned (.agg #[I W,I H,.slice a P ca,SN])∧w'.ownsRow V.heap.size 3 1 (.slice a P ca) P (f15 P)∧Bl V w')
  (aj:∀ (V:World) (base:Nat) (a:Option Addr) (ca:Nat),Bl w V→V.ownsRow base 3 1 (.slice a P ca) P (f15 P)→Cl 11 #[.agg #[I W,I H,.slice a P ca,SN]] V fun e w'=>∃ base d n2 c2 a3 n3 c3 a4 n4 c4 a5 n5 f,e=.returned (.tuple #[.agg #[I W,I H,.slice d n2 c2,.slice a3 n3 c3,.slice a4 n4 c4,.slice a5 n5 f],I 0])∧Z 0 base (.slice d n2 c2) (.slice a3 n3 c3) (.slice a4 n4 c4) (.slice a5 n5 f) w'∧V.heap.size≤base∧Bl V w')
  (ao:∀ (V:World) (j base:Nat) (d:Option Addr) (n2 c2:Nat) (a3:Option Addr) (n3 c3:Nat) (a4:Option Addr) (n4 c4:Nat) (a5:Option Addr) (n5 f:Nat) (m0 m1 m2 m4 m5:Int) (m3:Bool),j<4→Bl w V→Z j base (.slice d n2 c2) (.slice a3 n3 c3) (.slice a4 n4 c4) (.slice a5 n5 f) V→(-9223372036854775808≤m0∧m0≤9223372036854775807)∧(-9223372036854775808≤m1∧m1≤9223372036854775807)∧(-9223372036854775808≤m2∧m2≤9223372036854775807)∧(-9223372036854775808≤m4∧m4≤9223372036854775807)∧(-9223372036854775808≤m5∧m5≤9223372036854775807)→Cl 14 #[.agg #[I m0,I m1,I m2,.bool m3,I m4,I m5],.agg #[I W,I H,.slice d n2 c2,.slice a3 n3 c3,.slice a4 n4 c4,.slice a5 n5 f]] V fun e w'=>StpTo V w' e)
  (an:∀ (V:World) (j base:Nat) (d:Option Addr) (n2 c2:Nat) (a3:Option Addr) (n3 c3:Nat) (a4:Option Addr) (n4 c4:Nat) (a5:Option Addr) (n5 f:Nat) (wy c sd:Int) (ov:Bool) (ly ax ay ak:Int),j<4→Bl w V→Z j base (.slice d n2 c2) (.slice a3 n3 c3) (.slice a4 n4 c4) (.slice a5 n5 f) V→lineB wy c=true→(-24≤c∧c≤24)→(sd=1∨sd=-1)→0≤ly→Cl 13 #[.agg #[I W,I H,.slice d n2 c2,.slice a3 n3 c3,.slice a4 n4 c4,.slice a5 n5 f],.agg #[I wy,I c,I sd,.bool ov,I ly,I ax,I ay,I ak]] V fun e w'=>DoTo (Z (j+1)) V w' W H e) :
  Cl 4 #[I r0,I r1,.slice la ln lc,I 4] w fun e w'=>FldTo Z w w' W H e:=by
 have K5:=Hd k5;have K6:=Hd k6;have C5:=Hd h5;have C6:=Hd h6
 have ad:Hid (∀ V:World,Bl w V→Cl 12 #[I (1+p),I (1+q)] V fun e w'=>∃ a ca,e=.returned (.agg #[I W,I H,.slice a P ca,SN])∧w'.ownsRow V.heap.size 3 1 (.slice a P ca) P (f15 P)∧Bl V w'):=by
  have h:=am;rw [← hW,← hH];exact h
 have ac:=Hd aj;have ag:=Hd ao;have ae:=Hd an;have HL:=Hd hl;clear k5 k6 h5 h6 am aj ao an hl hW hH;go_enter Tryz.func4,Tryz.ntmps4
 go_upto_region 4 with (first
  | (go_at_call 5;(with_reducible refine (C5.out _).mono ?_);rintro e w1 ⟨rfl,J⟩;have HA:Hid (Bl w w1∧BX6 w1 w.heap.size (I 0) (I 0) SN SN SN SN):=⟨Qb β1 J,Zb rfl J⟩;clear J)
  | (go_at_call 5;(with_reducible refine (C6.out _).mono ?_);rintro e w1 ⟨rfl,J⟩;have H1:=H2 (Qb HA.out.1 J) (HA.out.2.kept J);clear J HA)
  | (go_at_call 12;go_must (refine (ad.out _ H1.out.1).mono ?_);rintro e w2 ⟨a0,br,rfl,hO,s⟩;have H2:=H3 hO (Qb H1.out.1 s) (H1.out.2.kept s);clear hO s H1)
  | (go_at_call 11;go_must (refine (ac.out _ _ _ _ H2.out.2.1 H2.out.1).mono ?_);rintro e w3 ⟨base,d,n2,c2,a3,n3,c3,a4,n4,c4,a5,n5,f,rfl,hZ,Y,X⟩;have H3:=H4 hZ (Nl (bk H2.out.2.2.1.1) Y) (Qb H2.out.2.1 X) (H2.out.2.2.kept X);clear hZ Y X H2))
 refine Qj (fun W4 aq=>?_);obtain ⟨b4,a7⟩:∃ b,b=w3.heap.size:=⟨_,rfl⟩
 have ai:Hid (LpF Z W H b4 w W4 0):=by
  have:LpF Z W H b4 w W4 0:=by
   rw [aq,a7];have hB:Bl w3 (w3.alloc (.cells #[I W,I H,.slice d n2 c2,.slice a3 n3 c3,.slice a4 n4 c4,.slice a5 n5 f] 30)):=Qc (Qd _);exact ⟨base,d,n2,c2,a3,n3,c3,a4,n4,c4,a5,n5,f,by simp [BX6,go_sem],K5.out _ _ _ _ _ _ _ _ _ _ _ _ _ _ _ _ H3.out.1 hB,H3.out.2.1,Qb H3.out.2.2.1 hB,H3.out.2.2.2.kept hB⟩
  exact this
 have HB4:Hid (w.heap.size<b4):=by
  have:w.heap.size<b4:=by rw [a7];exact bk H3.out.2.2.2.1.1
  exact this
 rw [← a7];clear aq a7 H3 C5 C6 ac ad;go_wp2;go_loopg [12,13,14] 4 (fun gk bb b6 b7 wx=>∃ i j:Nat,i≤4∧j≤i∧gk=4 - i∧bb=I (i:Int)∧LpF Z W H b4 w wx j)
 case atStart=>exact ⟨0,0,γ,γ,rfl,rfl,ai.out⟩
 case round =>
  clear ai;obtain ⟨i,j,hi,hj,rfl,rfl,hL⟩:=hrel;obtain ⟨base,d,n2,c2,a3,n3,c3,a4,n4,c4,a5,n5,f,hB,hZ,Y,ap,h8⟩:=hL;have m:=H5 hZ ap hB Y h8;clear hZ ap hB Y h8;by_cases h1:i<ln∧i<4
  ·have i1:(i:Int)<(ln:Int):=γ;have i4:(i:Int)<4:=γ;have i0:(0:Int)≤(i:Int):=γ;have av:j<4:=γ;obtain ⟨gl,off,m0,m1,m2,m3,m4,m5,rfl,Q,x1,x2,x3,x4,x5,hm⟩:=HL.out i h1.1;have HM:=Hd hm;clear hm;replace Q:=Qa m.out.2.1 Q;replace x1:=Qa m.out.2.1 x1;replace x2:=Qa m.out.2.1 x2;replace x3:=Qa m.out.2.1 x3;replace x4:=Qa m.out.2.1 x4;replace x5:=Qa m.out.2.1 x5;have zl:=Bt Q;obtain ⟨⟨y0,y1,y2,y3,y4,y5⟩,_⟩:=m.out.2.2.1;have zb:=bk y0;dsimp only at zb;go_upto_region 7 with fail
   have ah:Hid (∀ V:World,Bl wr V→Cl 14 #[.agg #[I m0,I m1,I m2,.bool m3,I m4,I m5],.agg #[I W,I H,.slice d n2 c2,.slice a3 n3 c3,.slice a4 n4 c4,.slice a5 n5 f]] V fun e w'=>StpTo V w' e):=fun V hV=>ag.out V j base _ _ _ _ _ _ _ _ _ _ _ _ m0 m1 m2 m4 m5 m3 av (Qb m.out.2.1 hV) (K5.out _ _ _ _ _ _ _ _ _ _ _ _ _ _ _ _ m.out.1 hV) HM.out;have af:Hid (∀ (V:World) (wy c sd:Int) (ov:Bool) (ly ax ay ak:Int),Bl wr V→(lineB wy c=true∧(-24≤c∧c≤24)∧(sd=1∨sd=-1)∧0≤ly)→Cl 13 #[.agg #[I W,I H,.slice d n2 c2,.slice a3 n3 c3,.slice a4 n4 c4,.slice a5 n5 f],.agg #[I wy,I c,I sd,.bool ov,I ly,I ax,I ay,I ak]] V fun e w'=>DoTo (Z (j+1)) V w' W H e):=fun V wy c sd ov ly ax ay ak hV hF=>ae.out V j base _ _ _ _ _ _ _ _ _ _ _ _ wy c sd ov ly ax ay ak av (Qb m.out.2.1 hV) (K5.out _ _ _ _ _ _ _ _ _ _ _ _ _ _ _ _ m.out.1 hV) hF.1 hF.2.1 hF.2.2.1 hF.2.2.2;go_cut [13,14] (fun b6 b7 wx=>∃ (b:Nat) (Q x1:Int) (p2:Option Addr) (K r2:Nat) (p3:Option Addr) (L r3:Nat) (p4:Option Addr) (M r4:Nat) (p5:Option Addr) (N r5:Nat) (n:Int),b6=.pointer (Az b)∧b7=I n∧wr.heap.size≤b∧BX6 wx b (I Q) (I x1) (.slice p2 K r2) (.slice p3 L r3) (.slice p4 M r4) (.slice p5 N r5)∧(n=0→Q=W∧x1=H∧∃ base,Z (j+1) base (.slice p2 K r2) (.slice p3 L r3) (.slice p4 M r4) (.slice p5 N r5) wx∧wr.heap.size≤base)∧Bl wr wx)
   case first =>
    have o:=Hd (Qd wr)
    go_region_held3 (fun w'=>At w' b4 0 (I W)∧At w' b4 1 (I H)∧At w' b4 2 (.slice d n2 c2)∧At w' b4 3 (.slice a3 n3 c3)∧At w' b4 4 (.slice a4 n4 c4)∧At w' b4 5 (.slice a5 n5 f)∧At w' gl (off+i*6) (I m0)∧At w' gl (off+i*6+1) (I m1)∧At w' gl (off+i*6+2) (I m2)∧At w' gl (off+i*6+3) (.bool m3)∧At w' gl (off+i*6+4) (I m4)∧At w' gl (off+i*6+5) (I m5))
     ((refine ⟨?_, ?_, ?_, ?_, ?_, ?_, ?_, ?_, ?_, ?_, ?_, ?_⟩ <;> (repeat' (first | (with_reducible assumption) | (with_reducible refine Jt ?_ ?_) | (dsimp only;omega) | (simp [go_sem];done) | (simp;omega) | (with_reducible refine Ql ?_) | (with_reducible refine Qi ?_)))))
     (first
      | (go_at_call 14;(with_reducible refine (ah.out _ (by with_reducible repeat (first | exact o.out | refine Qe ?_ | refine Qc ?_))).mono ?_);rintro e w8 ⟨wy,c,sd,ov,ly,ax,ay,ak,rfl,aw,au,b5,az,hb⟩;have b8:=H4 aw au b5 az;clear aw au b5 az;have ab:=Qa (a:=⟨b4,0,none⟩) (v:=I W) hb δ;have bi:=Qa (a:=⟨b4,1,none⟩) (v:=I H) hb δ;have bj:=Qa (a:=⟨b4,2,none⟩) (v:=.slice d n2 c2) hb δ;have bm:=Qa (a:=⟨b4,3,none⟩) (v:=.slice a3 n3 c3) hb δ;have bn:=Qa (a:=⟨b4,4,none⟩) (v:=.slice a4 n4 c4) hb δ;have bo:=Qa (a:=⟨b4,5,none⟩) (v:=.slice a5 n5 f) hb δ;have aa:=Qa (a:=⟨gl,off+i*6,none⟩) (v:=I m0) hb δ;have bc:=Qa (a:=⟨gl,off+i*6+1,none⟩) (v:=I m1) hb δ;have be:=Qa (a:=⟨gl,off+i*6+2,none⟩) (v:=I m2) hb δ;have bf:=Qa (a:=⟨gl,off+i*6+3,none⟩) (v:=.bool m3) hb δ;have bg:=Qa (a:=⟨gl,off+i*6+4,none⟩) (v:=I m4) hb δ;have bh:=Qa (a:=⟨gl,off+i*6+5,none⟩) (v:=I m5) hb δ;(first | (have r:=R.kept hb;clear R;have R:=r;obtain ⟨⟨l,u,x,y,z,A⟩,B,C,D,E,F,G⟩:=r;have O:=bk l;dsimp only at O) | (have r:=Zb (g:=wr.heap.size) rfl hb;have R:=r;obtain ⟨⟨l,u,x,y,z,A⟩,B,C,D,E,F,G⟩:=r;have O:=bk l;dsimp only at O) | (have r:=freshS_d (g:=wr.heap.size) rfl hb;have R:=r;obtain ⟨⟨l,u,x,y,z,A⟩,B,C,D,E,F,G⟩:=r;have O:=bk l;dsimp only at O) | (have r:=Zb rfl hb;have R:=r;obtain ⟨⟨l,u,x,y,z,A⟩,B,C,D,E,F,G⟩:=r;have O:=bk l;dsimp only at O) | skip);have bp:=Bt aa;have bq:=Bt ab;have hq:=hb.size;have HQ:Bl wr w8:=Qb (by with_reducible repeat (first | exact o.out | refine Qe ?_ | refine Qc ?_)) hb;clear o;have o:=Hd HQ;clear HQ;have hv:=o.out.size;clear hb)
      | (go_at_call 13;(with_reducible refine (af.out _ wy c sd ov ly ax ay ak (by with_reducible repeat (first | exact o.out | refine Qe ?_ | refine Qc ?_)) b8.out).mono ?_);rintro e w8 ⟨z0,z1,p2,K,r2,p3,L,r3,p4,M,r4,p5,N,r5,n,rfl,hz,hb⟩;have ab:=Qa (a:=⟨b4,0,none⟩) (v:=I W) hb δ;have bi:=Qa (a:=⟨b4,1,none⟩) (v:=I H) hb δ;have bj:=Qa (a:=⟨b4,2,none⟩) (v:=.slice d n2 c2) hb δ;have bm:=Qa (a:=⟨b4,3,none⟩) (v:=.slice a3 n3 c3) hb δ;have bn:=Qa (a:=⟨b4,4,none⟩) (v:=.slice a4 n4 c4) hb δ;have bo:=Qa (a:=⟨b4,5,none⟩) (v:=.slice a5 n5 f) hb δ;have aa:=Qa (a:=⟨gl,off+i*6,none⟩) (v:=I m0) hb δ;have bc:=Qa (a:=⟨gl,off+i*6+1,none⟩) (v:=I m1) hb δ;have be:=Qa (a:=⟨gl,off+i*6+2,none⟩) (v:=I m2) hb δ;have bf:=Qa (a:=⟨gl,off+i*6+3,none⟩) (v:=.bool m3) hb δ;have bg:=Qa (a:=⟨gl,off+i*6+4,none⟩) (v:=I m4) hb δ;have bh:=Qa (a:=⟨gl,off+i*6+5,none⟩) (v:=I m5) hb δ;(first | (have r:=R.kept hb;clear R;have R:=r;obtain ⟨⟨l,u,x,y,z,A⟩,B,C,D,E,F,G⟩:=r;have O:=bk l;dsimp only at O) | (have r:=Zb (g:=wr.heap.size) rfl hb;have R:=r;obtain ⟨⟨l,u,x,y,z,A⟩,B,C,D,E,F,G⟩:=r;have O:=bk l;dsimp only at O) | (have r:=freshS_d (g:=wr.heap.size) rfl hb;have R:=r;obtain ⟨⟨l,u,x,y,z,A⟩,B,C,D,E,F,G⟩:=r;have O:=bk l;dsimp only at O) | (have r:=Zb rfl hb;have R:=r;obtain ⟨⟨l,u,x,y,z,A⟩,B,C,D,E,F,G⟩:=r;have O:=bk l;dsimp only at O) | skip);have bp:=Bt aa;have bq:=Bt ab;have hq:=hb.size;have HQ:Bl wr w8:=Qb (by with_reducible repeat (first | exact o.out | refine Qe ?_ | refine Qc ?_)) hb;have b9:Hid _:=hz;clear o;have o:=Hd HQ;clear HQ;have hv:=o.out.size;clear hb hz)
      | (trace_state;fail))
    all_goals
     go_wp2;go_meet
     case rel =>
      refine ⟨_,z0,z1,p2,K,r2,p3,L,r3,p4,M,r4,p5,N,r5,n,rfl,rfl, ?_, ?_, ?_, ?_⟩
      ·first | exact Nr _ | omega | (simp;omega)
      ·first | (simp [BX6,go_sem];done) | (simp [BX6,go_sem, *];done)
      ·intro ba;obtain ⟨e0,e1,t,a6,s⟩:=b9.out ba;refine ⟨e0,e1,t, ?_, ?_⟩
       ·first
         | (refine K6.out _ _ _ _ _ _ _ _ _ _ _ _ _ _ _ _ _ a6 (by with_reducible repeat' (first | exact gr_refl _ _ | refine gr_set ?_ | refine gr_drew ?_ | refine gr_alloc ?_)) (by first | omega | (simp at s;omega));done)
         | (refine K5.out _ _ _ _ _ _ _ _ _ _ _ _ _ _ _ _ a6 (by with_reducible repeat' (first | exact Qd _ | refine Qk ?_ (by (dsimp only;omega)) | refine Qe ?_ | refine Qc ?_));done)
       ·have:=o.out.size;have X:=s;try simp at X
        omega
      ·with_reducible repeat' (first | exact o.out | refine Qk ?_ ?_ | refine Qc ?_ | refine Qe ?_)
       all_goals (first | omega | (dsimp only;omega) | (simp;done) | (simp;omega))
   case rest =>
    obtain ⟨b,Q,x1,p2,K,r2,p3,L,r3,p4,M,r4,p5,N,r5,n,rfl,rfl,hb,hX,ar,U⟩:=hcut;have HC:=H3 hX ar U;have T:=H4 (m.out.2.2.1.kept U) (Qb m.out.2.1 U) (m.out.2.2.2.2.kept U) (bk m.out.2.2.1.1.1);clear hX ar U;by_cases hc:n=0
    ·obtain ⟨e0,e1,t,a6,s⟩:=HC.out.2.1 hc;subst hc e0 e1;obtain ⟨⟨g0,g1,g2,g3,g4,g5⟩,_⟩:=HC.out.1;obtain ⟨⟨y0,y1,y2,y3,y4,y5⟩,u0,u1,u2,u3,u4,u5⟩:=T.out.1;have zr:=bk g0;have zb:=bk y0;dsimp only at zr zb
     have HN:Hid (LpF Z Q x1 b4 w (setBX6 wc b4 (I Q) (I x1) (.slice p2 K r2) (.slice p3 L r3) (.slice p4 M r4) (.slice p5 N r5)) (j+1)):=by
      have:LpF Z Q x1 b4 w (setBX6 wc b4 (I Q) (I x1) (.slice p2 K r2) (.slice p3 L r3) (.slice p4 M r4) (.slice p5 N r5)) (j+1):=by
       have hg:=Jf wc b4 (I Q) (I x1) (.slice p2 K r2) (.slice p3 L r3) (.slice p4 M r4) (.slice p5 N r5);have h4:=T.out.2.2.2;have h5:=HB4.out;exact ⟨t,p2,K,r2,p3,L,r3,p4,M,r4,p5,N,r5,T.out.1.put,K6.out _ _ _ _ _ _ _ _ _ _ _ _ _ _ _ _ _ a6 hg γ,γ,T.out.2.1.grown hg T.out.2.1.size (fun k hk=>by cases hk;omega),T.out.2.2.1.grown hg (fun e=>by have:=Option.some.inj e;omega)⟩
      exact this
     clear a6 s m HC T;go_wp2;go_roundg (4 - (i+1))
     case measure=>omega
     case rel=>exact ⟨i+1,j+1,γ,γ,rfl,σ,HN.out⟩
    ·have bs:(n == 0)=false:=by rw [beq_eq_false_iff_ne];exact hc
     have bt:decide (n=0)=false:=by rw [decide_eq_false_iff_not];exact hc
     have HN:Hid (LpF Z W H b4 w wc j):=⟨base,d,n2,c2,a3,n3,c3,a4,n4,c4,a5,n5,f,T.out.1,K5.out _ _ _ _ _ _ _ _ _ _ _ _ _ _ _ _ m.out.1 HC.out.2.2,m.out.2.2.2.1,T.out.2.1,T.out.2.2.1⟩;clear m HC T;go_wp2;go_roundg (4 - (i+1))
     case measure=>omega
     case rel=>exact ⟨i+1,j,γ,γ,rfl,σ,HN.out⟩
  ·have HE:Hid (i=i):=rfl;clear ag ae HL;obtain ⟨⟨r0,r1,r2,r3,r4,r5⟩,_⟩:=m.out.2.2.1;obtain ⟨⟨y0,y1,y2,y3,y4,y5⟩,u0,u1,u2,u3,u4,u5⟩:=m.out.2.2.2.2;have zr:=bk r0;have zb:=bk y0;dsimp only at zr zb;have h4:=HB4.out
   have a8:FldTo Z w (setBX6 wr w.heap.size (I W) (I H) (.slice d n2 c2) (.slice a3 n3 c3) (.slice a4 n4 c4) (.slice a5 n5 f)) W H (.returned (.tuple #[.agg #[I W,I H,.slice d n2 c2,.slice a3 n3 c3,.slice a4 n4 c4,.slice a5 n5 f],.bool true])):=by
    have hg:=Jf wr w.heap.size (I W) (I H) (.slice d n2 c2) (.slice a3 n3 c3) (.slice a4 n4 c4) (.slice a5 n5 f);exact ⟨j,base,d,n2,c2,a3,n3,c3,a4,n4,c4,a5,n5,f,γ,rfl,K6.out _ _ _ _ _ _ _ _ _ _ _ _ _ _ _ _ _ m.out.1 hg m.out.2.2.2.1,m.out.2.1.grown hg m.out.2.1.size (fun k hk=>by cases hk;omega)⟩
   have HF:Hid (FldTo Z w (setBX6 wr w.heap.size (I W) (I H) (.slice d n2 c2) (.slice a3 n3 c3) (.slice a4 n4 c4) (.slice a5 n5 f)) W H (.returned (.tuple #[.agg #[I W,I H,.slice d n2 c2,.slice a3 n3 c3,.slice a4 n4 c4,.slice a5 n5 f],.bool true]))∧BX6 (setBX6 wr w.heap.size (I W) (I H) (.slice d n2 c2) (.slice a3 n3 c3) (.slice a4 n4 c4) (.slice a5 n5 f)) w.heap.size (I W) (I H) (.slice d n2 c2) (.slice a3 n3 c3) (.slice a4 n4 c4) (.slice a5 n5 f)):=⟨a8,m.out.2.2.2.2.put⟩;clear a8 m;by_cases h2:i<ln
   ·have i1:(i:Int)<(ln:Int):=γ;have i4:¬ (i:Int)<4:=γ;clear h1 h2;go_wp2;refine bodyPost_ret (w:=setBX6 wr w.heap.size (I W) (I H) (.slice d n2 c2) (.slice a3 n3 c3) (.slice a4 n4 c4) (.slice a5 n5 f)) (v:=.tuple #[.agg #[I W,I H,.slice d n2 c2,.slice a3 n3 c3,.slice a4 n4 c4,.slice a5 n5 f],.bool true]) ?_ rfl HF.out.1;obtain ⟨⟨q0,q1,K,L,M,N⟩,_⟩:=HF.out.2;clear HF;generalize setBX6 wr w.heap.size (I W) (I H) (.slice d n2 c2) (.slice a3 n3 c3) (.slice a4 n4 c4) (.slice a5 n5 f)=wz at q0 q1 K L M N ⊢;simp [results,Tryz.results4,go_sem,q0,q1,K,L,M,N]
   ·have i1:¬ (i:Int)<(ln:Int):=γ;clear h1 h2;go_wp2;refine bodyPost_ret (w:=setBX6 wr w.heap.size (I W) (I H) (.slice d n2 c2) (.slice a3 n3 c3) (.slice a4 n4 c4) (.slice a5 n5 f)) (v:=.tuple #[.agg #[I W,I H,.slice d n2 c2,.slice a3 n3 c3,.slice a4 n4 c4,.slice a5 n5 f],.bool true]) ?_ rfl HF.out.1;obtain ⟨⟨q0,q1,K,L,M,N⟩,_⟩:=HF.out.2;clear HF;generalize setBX6 wr w.heap.size (I W) (I H) (.slice d n2 c2) (.slice a3 n3 c3) (.slice a4 n4 c4) (.slice a5 n5 f)=wz at q0 q1 K L M N ⊢;simp [results,Tryz.results4,go_sem,q0,q1,K,L,M,N]
structure StQ (n:Nat) (L:List T3) (d:Dg) (a0 c0 mp sp:Option Addr) (w:World):Prop where
 z:Row w a0 (zW n)
 za:∃ b off,a0=Ad b off
 k:Row w c0 (gK d.cs)
 m:∃ g,mp=Az g∧MRow w g L.length (gM d)
 s:SRow w sp (gS L d)
theorem StQ.kept {d:Dg} {a b:Option Addr} (h:StQ n L d a0 c0 a b w) (hb:Bl w w'):StQ n L d a0 c0 a b w':=by
 obtain ⟨g,e,hg⟩:=h.m;exact ⟨h.z.kept hb,h.za,h.k.kept hb,⟨g,e,hg.kept hb⟩,h.s.kept hb⟩
theorem StC.q {d:Dg} {a b:Option Addr} (h:StC n L d a0 c0 a b w):StQ n L d a0 c0 a b w:=⟨h.z,h.za,h.k,h.m,h.s⟩
def PcRow (w:World) (u:Option Addr) (F:List (List T3)):Prop := ∀ i (h:i<F.length),∃ g sa sc,u=Az g∧At w g i (.slice sa F[i].length sc)∧TRow w sa F[i]
theorem PcRow.kept {u:Option Addr} {F:List (List T3)} (h:PcRow w u F) (hb:Bl w w'):PcRow w' u F:=fun i hi=>by
 obtain ⟨g,a,b,e,k,t⟩:=h i hi;exact ⟨g,a,b,e,Qa hb k,t.kept hb⟩
theorem nest_prow {u:Value} {F:List (List T3)} (h:Nest w base u F):∃ a c,u=.slice a F.length c∧PcRow w a F:=by
 obtain ⟨m,hl,f,hr,_⟩:=h;obtain ⟨a,c,rfl,hg⟩:=Qt f;refine ⟨a,c,rfl,fun i hi=>?_⟩;obtain ⟨g,rfl⟩:=hg γ;have b:i<m.length:=γ;obtain ⟨k,l,e,j⟩:=Yt (hr i b hi);have d:=f.cellAt i γ;rw [List.getElem?_eq_getElem b,e] at d;exact ⟨g,k,l,rfl,by simpa using d,j⟩
def PcD (L:List T3) (sd:Nat→Int) (F:List (List T3)):Prop:=F≠[]∧F.length≤300∧(F.map List.length).sum=L.length∧∀ i (h:i<F.length),∃ s:Int,s≠0∧∀ j (hj:j<L.length),L[j]∈F[i]→sd j=s
def psum (F:List (List T3)) (i:Nat):Nat:=((F.take i).map List.length).sum
theorem psum_one:∀ (F:List (List T3)) (i:Nat) (h:i<F.length),psum F (i+1)=psum F i+F[i].length
 | [],i,h=>by simp at h
 | f :: F,0,h=>by simp [psum]
 | f :: F,i+1,h=>by
  have:=psum_one F i (by simpa using h);simp only [psum,List.take_succ_cons,List.map_cons,List.sum_cons,List.getElem_cons_succ] at *;omega
theorem psum_all (F:List (List T3)):psum F F.length=(F.map List.length).sum:=by simp [psum]
theorem psum_le:∀ (F:List (List T3)) (i:Nat),psum F i≤(F.map List.length).sum
 | [],i=>by simp [psum]
 | f :: F,0=>by simp [psum]
 | f :: F,i+1=>by
  have:=psum_le F i;simp only [psum,List.take_succ_cons,List.map_cons,List.sum_cons] at *;omega
def bkW (v:Int):Int:=if v=2 then 3 else if v=3 then 2 else v
def bkC (v c:Int):Int:=if v=1 then c else -c
theorem cut_law (W H:Nat) (L:List T3) (hL:L.length≤300) (r0 r1 r2 r3 r p c:Int) (la:Option Addr) (ln lc:Nat) (w:World) (ak:Dg→List (List T3)→Prop) (Tn:Dg→Dg→Prop)
  (co:0≤r∧r<4) (hp:0≤p∧p<21) (hc:c=2*(p - 8))
  (C4:Hid (Cl 4 #[I r0,I r1,.slice la ln lc,I 4] w fun e w'=>∃ d o c2 a3 c3 a4 c4 a5 E,e=.returned (.tuple #[.agg #[I (W:Int),I (H:Int),.slice o (W*H) c2,.slice a3 (Dg.cs d).length c3,.slice a4 L.length c4,.slice a5 (gS L d).length E],.bool true])∧GdC 192 384 L d∧StC (W*H) L d o a3 a4 a5 w'∧Bl w w'))
  (C5:Hid (∀ V:World,Rt 5 #[I r2,I 4] V (I r)))
  (av:Hid (∀ V:World,Rt 5 #[I r3,I 21] V (I p)))
  (C6:Hid (∀ (V:World) (d:Dg) (o:Option Addr) (c2:Nat) (a3:Option Addr) (c3:Nat) (a4:Option Addr) (c4:Nat) (a5:Option Addr) (E:Nat),Bl w V→GdC 192 384 L d→StC (W*H) L d o a3 a4 a5 V→Cl 6 #[.agg #[I (W:Int),I (H:Int),.slice o (W*H) c2,.slice a3 (Dg.cs d).length c3,.slice a4 L.length c4,.slice a5 (gS L d).length E],.agg #[I r,I c]] V fun e w'=>∃ pa pc F,e=.returned (.tuple #[.slice pa (List.length F) pc,I 0])∧ak d F∧PcRow w' pa F∧Bl V w'))
  (C7:Hid (∀ (V:World) (d:Dg) (o:Option Addr) (c2:Nat) (a3:Option Addr) (c3:Nat) (a4:Option Addr) (_c4:Nat) (a5:Option Addr) (_E:Nat),Bl w V→GdC 192 384 L d→StC (W*H) L d o a3 a4 a5 V→Cl 7 #[.agg #[I (W:Int),I (H:Int),.slice o (W*H) c2,.slice a3 (Dg.cs d).length c3]] V fun e w'=>∃ ta tc,e=.returned (.tuple #[.slice ta L.length tc,I 0])∧TRow w' ta L∧Bl V w'))
  (C8:Hid (∀ (V:World) (d:Dg) (j:Nat) (hj:j<L.length),Bl w V→GdC 192 384 L d→Rt 8 #[.agg #[I (gM d j).1,I (gM d j).2.1,I (gM d j).2.2.1,I (gM d j).2.2.2.1,I (gM d j).2.2.2.2.1,I (gM d j).2.2.2.2.2],.agg #[I (L[j]).1,I (L[j]).2.1,I (L[j]).2.2]] V (.tuple #[.agg #[I (mvt (gM d j) L[j]).1,I (mvt (gM d j) L[j]).2.1,I (mvt (gM d j) L[j]).2.2],I 0])))
  (C9:Hid (∀ (V:World) (d:Dg) (j:Nat) (hj:j<L.length),Bl w V→GdC 192 384 L d→Rt 9 #[.agg #[I r,I c],.agg #[I (mvt (gM d j) L[j]).1,I (mvt (gM d j) L[j]).2.1,I (mvt (gM d j) L[j]).2.2]] V (.tuple #[I (sdN r c (pls L (gM d) L.length) j),I 0])))
  (au:Hid (∀ (V:World) (d:Dg) (o:Option Addr) (c2:Nat) (a3:Option Addr) (c3:Nat) (a4:Option Addr) (c4:Nat) (a5:Option Addr) (E:Nat),Bl w V→GdC 192 384 L d→StC (W*H) L d o a3 a4 a5 V→Cl 10 #[.agg #[I (W:Int),I (H:Int),.slice o (W*H) c2,.slice a3 (Dg.cs d).length c3,.slice a4 L.length c4,.slice a5 (gS L d).length E]] V fun e w'=>∃ d2 o c2 a3 c3 a4 c4 a5 E,e=.returned (.tuple #[.agg #[I (W:Int),I (H:Int),.slice o (W*H) c2,.slice a3 (Dg.cs d2).length c3,.slice a4 L.length c4,.slice a5 (gS L d2).length E],I 0])∧Tn d d2∧StQ (W*H) L d2 o a3 a4 a5 w'∧Bl V w'))
  (bw:Hid (∀ (V:World) (d d2:Dg) (F:List (List T3)) (o:Option Addr) (c2:Nat) (a3:Option Addr) (c3:Nat) (a4:Option Addr) (c4:Nat) (a5:Option Addr) (E:Nat),Bl w V→GdC 192 384 L d→Tn d d2→ak d F→StQ (W*H) L d2 o a3 a4 a5 V→Cl 6 #[.agg #[I (W:Int),I (H:Int),.slice o (W*H) c2,.slice a3 (Dg.cs d2).length c3,.slice a4 L.length c4,.slice a5 (gS L d2).length E],.agg #[I (bkW r),I (bkC r c)]] V fun e w'=>∃ qa qc,e=.returned (.tuple #[.slice qa F.length qc,I 0])∧Bl V w'))
  (HP:Hid (∀ (d:Dg) (F:List (List T3)),GdC 192 384 L d→ak d F→PcD L (sdN r c (pls L (gM d) L.length)) F)) :
  Rt 3 #[I r0,I r1,.slice la ln lc,I r2,I r3] w (.bool true):=by
 have HC:=Hd hc;clear hc;have ci:=neq23;go_enter Tryz.func3,Tryz.ntmps3;go_upto_region 4 with (go_at_call 4;refine C4.out.mono ?_;rintro e w1 ⟨d,o,c2,a3,c3,a4,c4,a5,E,rfl,hG,hS,hb⟩;have H1:=H3 hG hS hb;clear hG hS hb)
 refine Qj (fun W2 an=>?_);obtain ⟨b1,ao⟩:∃ b,b=w1.heap.size:=⟨_,rfl⟩
 have H2:Hid (StC (W*H) L d o a3 a4 a5 W2∧Bl w W2∧At W2 b1 0 (I (W:Int))∧At W2 b1 1 (I (H:Int))∧At W2 b1 2 (.slice o (W*H) c2)∧At W2 b1 3 (.slice a3 (Dg.cs d).length c3)∧At W2 b1 4 (.slice a4 L.length c4)∧At W2 b1 5 (.slice a5 (gS L d).length E)):=by
  have hb:Bl w1 W2:=by rw [an];exact Qc (Qd _)
  refine ⟨H1.out.2.1.kept hb,Qb H1.out.2.2 hb, ?_, ?_, ?_, ?_, ?_, ?_⟩ <;> (rw [an,ao];simp [go_sem])
 have HG:=Hd H1.out.1;rw [← ao];clear an ao H1 C4
 go_upto_region 5 with (first
  | (go_at_call 5;(with_reducible refine (C5.out _).mono ?_);rintro e w3 ⟨rfl,y⟩;have H3:=Hd y;clear y)
  | (go_at_call 5;(with_reducible refine (av.out _).mono ?_);rintro e w4 ⟨rfl,bm⟩;have H4:=Hd (Qb H3.out bm);clear bm H3))
 refine Qj (fun U aa=>?_);obtain ⟨b2,ab⟩:∃ b,b=w4.heap.size:=⟨_,rfl⟩
 have H5:Hid ((StC (W*H) L d o a3 a4 a5 U∧Bl w U)∧(At U b1 0 (I (W:Int))∧At U b1 1 (I (H:Int))∧At U b1 2 (.slice o (W*H) c2)∧At U b1 3 (.slice a3 (Dg.cs d).length c3)∧At U b1 4 (.slice a4 L.length c4)∧At U b1 5 (.slice a5 (gS L d).length E))∧At U b2 0 (I r)∧At U b2 1 (I c)):=by
  have hb:Bl W2 U:=Qb H4.out (by rw [aa];exact Qc (Qd _));obtain ⟨k0,k1,k2,k3,k4,k5⟩:=H2.out.2.2;refine ⟨⟨H2.out.1.kept hb,Qb H2.out.2.1 hb⟩,⟨Qa hb k0,Qa hb k1,Qa hb k2,Qa hb k3,Qa hb k4,Qa hb k5⟩, ?_, ?_⟩
  ·rw [aa,ab];simp [go_sem]
  ·rw [aa,ab,HC.out];simp [go_sem]
 rw [← ab];clear aa ab H4 H2 C5 av;obtain ⟨⟨s,x1,x2,x3,x4,x5⟩,y0,y1⟩:=H5.out.2;have af:=bk s;have bv:=bk y0;dsimp only at af bv;go_upto_region 6 with (go_at_call 6;refine (C6.out _ d _ _ _ _ _ _ _ _ H5.out.1.2 HG.out H5.out.1.1).mono ?_;rintro e w6 ⟨pa,pc,F,rfl,hI,hR,G⟩;have H6:=H3 hI hR G;replace s:=Qa G s;replace x1:=Qa G x1;replace x2:=Qa G x2;replace x3:=Qa G x3;replace af:=Nl af G.size;clear hI hR G C6)
 go_upto_region 7 with (go_at_call 7;refine (C7.out _ d _ _ _ _ a4 c4 a5 E (Qb H5.out.1.2 H6.out.2.2) HG.out (H5.out.1.1.kept H6.out.2.2)).mono ?_;rintro e Q ⟨ta,tc,rfl,hT,ap⟩;have H7:=H4 H6.out.1 (H6.out.2.1.kept ap) hT (Qb H6.out.2.2 ap);clear hT ap C7 H6)
 clear s x1 x2 x3 x4 x5 y0 y1 af bv;obtain ⟨bf,cm,bh,bg⟩:=HP.out d F HG.out H7.out.1;have cl:0<F.length:=List.length_pos_iff.2 bf
 have ai:Hid (psum F F.length=L.length):=by
  have:psum F F.length=L.length:=by rw [psum_all];exact bh
  exact this
 have ay:=Hd bg;clear bf bh bg HP;have f0:((F.length:Int) == 0)=false:=by rw [beq_eq_false_iff_ne];omega
 have f1:decide ((F.length:Int)=0)=false:=by rw [decide_eq_false_iff_not];omega
 have R:Hid (Bl w Q∧StC (W*H) L d o a3 a4 a5 Q∧(At Q b1 0 (I (W:Int))∧At Q b1 1 (I (H:Int))∧At Q b1 2 (.slice o (W*H) c2)∧At Q b1 3 (.slice a3 (Dg.cs d).length c3)∧At Q b1 4 (.slice a4 L.length c4)∧At Q b1 5 (.slice a5 (gS L d).length E))∧At Q b2 0 (I r)∧At Q b2 1 (I c)):=by
  have hb:=H7.out.2.2.2;obtain ⟨⟨k0,k1,k2,k3,k4,k5⟩,l0,l1⟩:=H5.out.2;exact ⟨Qb H5.out.1.2 hb,H5.out.1.1.kept hb,⟨Qa hb k0,Qa hb k1,Qa hb k2,Qa hb k3,Qa hb k4,Qa hb k5⟩,Qa hb l0,Qa hb l1⟩
 have HT:=H3 H7.out.2.1 H7.out.2.2.1 H7.out.1;clear H5 H7;go_upto_block 0 with fail
 go_wp2;go_loopg [18,19,20,21,22,23,24,25,26] F.length (fun gk aq ce ac bs ar ad ae bt bu B=>∃ i:Nat,i≤F.length∧gk=F.length - i∧aq=I (psum F i:Int)∧ce=I (i:Int)∧Bl Q B)
 case atStart=>exact ⟨0,γ,rfl,by simp [psum],rfl,Qd _⟩
 case round =>
  obtain ⟨i,hi,rfl,rfl,rfl,bn⟩:=hrel;have h:=Hd bn;clear bn;by_cases h1:i<F.length
  ·have i1:(i:Int)<(F.length:Int):=γ;have i0:(0:Int)≤(i:Int):=γ;obtain ⟨si,cc,bq⟩:=ay.out i h1;have b6:=Hd bq;have g1:(si != 0)=true:=by simpa using cc
   have g2:(si != si)=false:=ν;have aj:=Hd (psum_one F i h1)
   have c8:Hid (psum F (i+1)≤300):=by
    have h1:=psum_le F (i+1);have h2:=ai.out;rw [psum_all] at h2;have:psum F (i+1)≤300:=γ;exact this
   clear bq;obtain ⟨N,am⟩:∃ l,l=F[i]:=⟨_,rfl⟩;rw [← am] at b6 aj;have az:=Hd am;clear am;go_upto_block 2 with fail
   go_wp2;go_loopg [18,20,21,22,23,24,25,26] N.length (fun gk aq ac bs ar ad ae bt bu B=>∃ (k:Nat) (z:Int),k≤N.length∧gk=N.length - k∧aq=I ((psum F i+k:Nat):Int)∧bs=I (k:Int)∧ac=I z∧(z=0∨z=si)∧Bl Q B)
   case atStart=>exact ⟨0,0,γ,rfl,ν,rfl,rfl,Or.inl rfl,h.out⟩
   case round =>
    obtain ⟨k,z,hk,rfl,rfl,rfl,rfl,hz,bp⟩:=hrel;have a7:=Hd bp;clear bp;obtain ⟨gp,sa,sc,rfl,xp,a8⟩:=(HT.out.1.kept a7.out) i h1;rw [← az.out] at xp;have zp:=Bt xp;clear a8;by_cases h2:k<N.length
    ·have k1:(k:Int)<(N.length:Int):=γ;have k0:(0:Int)≤(k:Int):=γ
     have c7:Hid (psum F i+k+1≤300):=by
      have h3:=aj.out;have h4:=c8.out;have:psum F i+k+1≤300:=γ;exact this
     have n1:((psum F i+k:Nat):Int)+1=((psum F i+(k+1):Nat):Int):=γ;have n2:((psum F i+k:Nat):Int)+1≤300:=by have:=c7.out;omega
     have n3:(0:Int)≤((psum F i+k:Nat):Int):=γ;obtain ⟨q,hq⟩:∃ q:Nat,q=psum F i+k:=⟨_,rfl⟩;rw [← hq] at n1 n2 n3;rw [← hq];clear hq;go_upto_block 4 with fail
     go_wp2;go_loopg [20,22,23,24,25,26] L.length (fun gk ac ar ad ae bt bu B=>∃ (j:Nat) (z:Int),j≤L.length∧gk=L.length - j∧ar=I (j:Int)∧ac=I z∧(z=0∨z=si)∧Bl Q B)
     case atStart=>exact ⟨0,z,γ,rfl,rfl,rfl,hz,a7.out⟩
     case round =>
      clear hz a7 xp zp;obtain ⟨j,z,hj,rfl,rfl,rfl,hz,bo⟩:=hrel;have T:=Hd bo;clear bo;by_cases h3:j<L.length
      ·have j1:(j:Int)<(L.length:Int):=γ;have j0:(0:Int)≤(j:Int):=γ;obtain ⟨gt,rfl,t0,t1,t2⟩:=(HT.out.2.1.kept T.out) j h3;obtain ⟨ca,cp,cq,e2,xp,a8⟩:=(HT.out.1.kept T.out) i h1;obtain rfl:gp=ca:=by cases e2;rfl
       rw [← az.out] at xp a8;obtain ⟨gs,rfl,s0,s1,s2⟩:=a8 k h2;have zt:=Bt t0;have zp:=Bt xp;have zs:=Bt s0;go_upto_region 21 with fail
       go_cut [103] (fun br B=>br=.bool (!sameT L[j].1 L[j].2.1 L[j].2.2 N[k].1 N[k].2.1 N[k].2.2)∧Bl wr B)
       case first =>
        obtain ⟨kc,kn⟩:=kcn wr;refine wk ?_;repeat (go_big_quiet_step (fail))
        refine kq1 (fun wq hq=>?_);clear kc kn;go_wp2;go_meet
        case rel=>exact ⟨ν,hq⟩
       case rest =>
        obtain ⟨rfl,Z⟩:=hcut;have u:=Hd (Qb T.out Z);clear Z t0 t1 t2 s0 s1 s2 zt zp zs xp
        cases hsm:sameT L[j].1 L[j].2.1 L[j].2.2 N[k].1 N[k].2.1 N[k].2.2 with
        | false =>
         clear hsm;go_wp2;go_roundg (L.length - (j+1))
         case measure=>omega
         case rel=>exact ⟨j+1,z,γ,rfl,σ,rfl,hz,u.out⟩
        | true =>
         have bi:L[j]=N[k]:=by
          have:=of_decide_eq_true hsm;exact Prod.ext this.1 (Prod.ext this.2.1 this.2.2)
         have b7:Hid (sdN r c (pls L (gM d) L.length) j=si):=b6.out j h3 (by rw [bi];exact Lm h2);clear bi hsm;obtain ⟨g4,e4,bj⟩:=(R.out.2.1.kept u.out).m;subst e4;obtain ⟨⟨y0,y1,y2,y3,y4,y5⟩,_⟩:=bj j h3;obtain ⟨g9,e9,t0,t1,t2⟩:=(HT.out.2.1.kept u.out) j h3;obtain rfl:gt=g9:=by cases e9;rfl
         obtain ⟨s,x1,x2,x3,x4,x5⟩:=R.out.2.2.1;clear bj s x1 x2 x3 x5 e9;have s:=Qa u.out x4;clear x4;obtain ⟨⟨mA,mB,mC,mD,mE,mF⟩,hm⟩:∃ m,m=gM d j:=⟨_,rfl⟩;obtain ⟨⟨tx,ty,tk⟩,ht⟩:∃ t,t=L[j]:=⟨_,rfl⟩;obtain ⟨⟨X,Y,K⟩,hX⟩:∃ t,t=mvt (gM d j) L[j]:=⟨_,rfl⟩
         have aw:Hid (∀ V:World,Bl wc V→Rt 8 #[.agg #[I mA,I mB,I mC,I mD,I mE,I mF],.agg #[I tx,I ty,I tk]] V (.tuple #[.agg #[I X,I Y,I K],I 0])):=fun V hV=>by
          have:=C8.out V d j h3 (Qb R.out.1 (Qb u.out hV)) HG.out;rw [← hX,← hm,← ht] at this;exact this
         have ax:Hid (∀ V:World,Bl wc V→Rt 9 #[.agg #[I r,I c],.agg #[I X,I Y,I K]] V (.tuple #[I si,I 0])):=fun V hV=>by
          have:=C9.out V d j h3 (Qb R.out.1 (Qb u.out hV)) HG.out;rw [← hX,b7.out] at this;exact this
         rw [← hm] at y0 y1 y2 y3 y4 y5;rw [← ht] at t0 t1 t2;dsimp only at y0 y1 y2 y3 y4 y5 t0 t1 t2;clear hm ht hX b7;have zt:=Bt t0;have z1:=Bt s;have z4:=Bt y0;go_upto_region 22 with fail
         go_cut [23,24] (fun ad ae B=>∃ b,ad=.pointer (Az b)∧ae=I 0∧wc.heap.size≤b∧(At B b 0 (I X)∧At B b 1 (I Y)∧At B b 2 (I K))∧Bl wc B)
         case first =>
          have P:=Hd (Qd wc)
          go_region_held3 (fun w'=>At w' b1 4 (.slice (Az g4) L.length c4)∧At w' g4 (j*6) (I mA)∧At w' g4 (j*6+1) (I mB)∧At w' g4 (j*6+2) (I mC)∧At w' g4 (j*6+3) (I mD)∧At w' g4 (j*6+4) (I mE)∧At w' g4 (j*6+5) (I mF)∧At w' gt (j*3) (I tx)∧At w' gt (j*3+1) (I ty)∧At w' gt (j*3+2) (I tk))
           ((refine ⟨?_, ?_, ?_, ?_, ?_, ?_, ?_, ?_, ?_, ?_⟩ <;> (repeat' (first | (with_reducible assumption) | (with_reducible refine Jt ?_ ?_) | (dsimp only;omega) | (simp [go_sem];done) | (simp;omega) | (with_reducible refine Ql ?_) | (with_reducible refine Qi ?_)))))
           (first
            | (go_at_call 8;(with_reducible refine (aw.out _ (by with_reducible repeat (first | exact P.out | refine Qe ?_ | refine Qc ?_))).mono ?_);rintro e w8 ⟨rfl,hb⟩;have cg:=Qa (a:=⟨b1,4,none⟩) (v:=.slice (some ⟨g4,0,none⟩) L.length c4) hb δ;have ch:=Qa (a:=⟨g4,j*6,none⟩) (v:=I mA) hb δ;have cw:=Qa (a:=⟨g4,j*6+1,none⟩) (v:=I mB) hb δ;have cx:=Qa (a:=⟨g4,j*6+2,none⟩) (v:=I mC) hb δ;have cy:=Qa (a:=⟨g4,j*6+3,none⟩) (v:=I mD) hb δ;have cz:=Qa (a:=⟨g4,j*6+4,none⟩) (v:=I mE) hb δ;have d6:=Qa (a:=⟨g4,j*6+5,none⟩) (v:=I mF) hb δ;have cf:=Qa (a:=⟨gt,j*3,none⟩) (v:=I tx) hb δ;have ct:=Qa (a:=⟨gt,j*3+1,none⟩) (v:=I ty) hb δ;have cu:=Qa (a:=⟨gt,j*3+2,none⟩) (v:=I tk) hb δ;(first | (have F8:=Uh (g:=wc.heap.size) rfl hb;obtain ⟨⟨b8,b9,ba⟩,⟨bb,bc,be⟩,fl⟩:=F8) | (have F8:=fresh3_d (g:=wc.heap.size) rfl hb;obtain ⟨⟨b8,b9,ba⟩,⟨bb,bc,be⟩,fl⟩:=F8) | (have F8:=Uh rfl hb;obtain ⟨⟨b8,b9,ba⟩,⟨bb,bc,be⟩,fl⟩:=F8) | skip);have d9:=Bt cf;have d7:=Bt cg;have d8:=Bt ch;have HQ:Bl wc w8:=Qb (by with_reducible repeat (first | exact P.out | refine Qe ?_ | refine Qc ?_)) hb;clear P;have P:=Hd HQ;clear HQ;have hv:=P.out.size;clear hb)
            | (trace_state;fail))
          all_goals
           go_wp2;go_meet
           case rel =>
            refine ⟨_,rfl,rfl, ?_, ?_, ?_⟩
            ·first | exact Nr _ | omega | (simp;omega)
            ·first | (simp [go_sem];done) | (simp [go_sem, *];done)
            ·with_reducible repeat' (first | exact P.out | refine Qk ?_ ?_ | refine Qc ?_ | refine Qe ?_)
             all_goals (first | omega | (dsimp only;omega) | (simp;done) | (simp;omega))
         case rest =>
          obtain ⟨b,rfl,rfl,cb,⟨v0,v1,v2⟩,hB⟩:=hcut;have ah:=Hd (Qb u.out hB);have bz:Hid (∀ V:World,Bl wc V→Rt 9 #[.agg #[I r,I c],.agg #[I X,I Y,I K]] V (.tuple #[I si,I 0])):=fun V hV=>ax.out V (Qb hB hV);have l0:=Qa ah.out R.out.2.2.2.1;have l1:=Qa ah.out R.out.2.2.2.2;have z2:=Bt l0;have z3:=Bt v0;clear hB cb s y0 y1 y2 y3 y4 y5 t0 t1 t2 zt z1 z4 aw ax u T;rcases hz with rfl | rfl
          all_goals
           go_wp2_with (go_at_call 9;(with_reducible refine (bz.out _ (Qd _)).mono ?_);rintro e w9 ⟨rfl,Z⟩;have c6:=Hd (Qb ah.out Z);clear Z l0 l1 v0 v1 v2 z2 z3)
           go_roundg (L.length - (j+1))
           case measure=>omega
           case rel=>exact ⟨j+1,_,γ,rfl,σ,rfl,Or.inr rfl,c6.out⟩
      ·have j1:¬ (j:Int)<(L.length:Int):=γ;go_wp2;go_roundg (N.length - (k+1))
       case measure=>omega
       case rel=>exact ⟨k+1,z,γ,rfl,(by refine congrArg _ ?_;omega),σ,rfl,hz,T.out⟩
    ·have k1:¬ (k:Int)<(N.length:Int):=γ
     have n1:(psum F i+k:Nat)=psum F (i+1):=by
      have:=aj.out;omega
     go_wp2;go_roundg (F.length - (i+1))
     case measure=>omega
     case rel=>exact ⟨i+1,γ,rfl,rfl,σ,a7.out⟩
  ·obtain rfl:i=F.length:=γ;have i1:¬ (F.length:Int)<(F.length:Int):=γ;have b5:=Hd ai.out;obtain ⟨s,x1,x2,x3,x4,x5⟩:=R.out.2.2.1;replace s:=Qa h.out s;replace x1:=Qa h.out x1;replace x2:=Qa h.out x2;replace x3:=Qa h.out x3;replace x4:=Qa h.out x4;replace x5:=Qa h.out x5;have z1:=Bt s;have l0:=Qa h.out R.out.2.2.2.1;have l1:=Qa h.out R.out.2.2.2.2;have z2:=Bt l0;have HA:=H3 (Qb R.out.1 h.out) (R.out.2.1.kept h.out) HT.out.2.2;have HI:=Hd HT.out.2.2;clear R HT h ai ay C8 C9;go_upto_region 29 with (go_at_call 10;refine (au.out _ d _ _ _ _ _ _ _ _ HA.out.1 HG.out HA.out.2.1).mono ?_;rintro e a6 ⟨d2,p2,q2,p3,q3,p4,q4,p5,q5,rfl,hT,hS,x⟩;have C:=H3 hT hS (Qb HA.out.1 x);clear s x1 x2 x3 x4 x5 z1;replace l0:=Qa x l0;replace l1:=Qa x l1;replace z2:=Nl z2 x.size;clear hT hS x)
   refine Qj (fun f O=>?_);obtain ⟨b3,y⟩:∃ b,b=a6.heap.size:=⟨_,rfl⟩
   have D:Hid ((Tn d d2∧StQ (W*H) L d2 p2 p3 p4 p5 f∧Bl w f)∧(At f b3 0 (I (W:Int))∧At f b3 1 (I (H:Int))∧At f b3 2 (.slice p2 (W*H) q2)∧At f b3 3 (.slice p3 (Dg.cs d2).length q3)∧At f b3 4 (.slice p4 L.length q4)∧At f b3 5 (.slice p5 (gS L d2).length q5))∧(At f b2 0 (I r)∧At f b2 1 (I c))∧(At f (b3+1) 0 (I r)∧At f (b3+1) 1 (I c))∧(Fn f (b3+1) 0∧Fn f (b3+1) 1)∧b2<b3∧w.heap.size≤b3):=by
    have hb:Bl a6 f:=by rw [O];exact Qc β1
    refine ⟨⟨C.out.1,C.out.2.1.kept hb,Qb C.out.2.2 hb⟩,⟨?_, ?_, ?_, ?_, ?_, ?_⟩,⟨Qa hb l0,Qa hb l1⟩,⟨?_, ?_⟩,⟨?_, ?_⟩,γ,by rw [y];exact C.out.2.2.size⟩ <;> (rw [O,y];simp [go_sem])
   have M:Hid (Bl a6 f∧b3=a6.heap.size):=⟨by rw [O];exact Qc β1,y⟩;rw [← y];clear O y l0 l1 z2 HA au;obtain ⟨l0,l1⟩:=D.out.2.2.1;obtain ⟨k0,k1⟩:=D.out.2.2.2.1;obtain ⟨y0,y1⟩:=D.out.2.2.2.2.1;obtain ⟨o1,o2⟩:=D.out.2.2.2.2.2;have z2:=Bt l0;have z3:=Bt k0;have e0:c≤24:=by have:=HC.out;omega
   have e1 : -24≤c:=by have:=HC.out;omega
   go_upto_block 6 with fail
   go_cut [147] (fun cj B=>f.grownBy B (some (b3+1))∧At B (b3+1) 0 (I (bkW r))∧At B (b3+1) 1 (I (bkC r c)))
   case first =>
    have cd:r=0∨r=1∨r=2∨r=3:=γ;rcases cd with rfl | rfl | rfl | rfl
    all_goals
     go_wp2;go_meet
     case rel =>
      refine ⟨?_, ?_, ?_⟩
      ·with_reducible repeat' (first | exact gr_refl _ _ | refine gr_set ?_)
      ·simp [go_sem,bkW, *]
      ·simp [go_sem,bkC, *]
   case rest =>
    obtain ⟨A,k0,k1⟩:=hcut;have hB:Bl a6 wc:=M.out.1.grown A M.out.1.size (fun q hq=>by cases hq;have:=M.out.2;omega);have HE:=H2 (Qb C.out.2.2 hB) (C.out.2.1.kept hB);have J:∀ q:Nat,some (⟨b3,q,none⟩:Addr).block≠some (b3+1):=fun q e=>by have:=Option.some.inj e;dsimp only at this;omega
    obtain ⟨s,x1,x2,x3,x4,x5⟩:=D.out.2.1;replace s:=A.cell s (J 0);replace x1:=A.cell x1 (J 1);replace x2:=A.cell x2 (J 2);replace x3:=A.cell x3 (J 3);replace x4:=A.cell x4 (J 4);replace x5:=A.cell x5 (J 5);have c9:=Hd D.out.1.1;have z4:=Bt s;have z5:=Bt k0;clear A hB J l0 l1 y0 y1 z2 z3 C D M;obtain ⟨m,hm⟩:∃ m:Nat,m=psum F F.length:=⟨_,rfl⟩;have HM:=Hd (hm.trans b5.out);rw [← hm];clear hm b5;obtain ⟨n,hn⟩:∃ n:Nat,n=L.length:=⟨_,rfl⟩;have m1:((m:Int) == (L.length:Int))=true:=by rw [HM.out];simp
    have m2:decide ((m:Int)=(L.length:Int))=true:=by rw [HM.out];simp
    have m3:(m:Int)=(L.length:Int):=by rw [HM.out]
    clear hn;go_wp2_with (go_at_call 6;refine (bw.out _ d d2 F _ _ _ _ _ _ _ _ HE.out.1 HG.out c9.out HI.out HE.out.2).mono ?_;rintro e cv ⟨qa,qc,rfl,ag⟩;have HZ:=Hd (Qb HE.out.1 ag);clear ag)
    go_ret;exact ⟨by simp,HZ.out⟩
def mk4 (k:Int):Int:=if k=1 then 3 else if k=3 then 1 else k
theorem mvt_mz (h:Kd t):mvt mz t=(-t.1 - 1,t.2.1,mk4 t.2.2):=by
 obtain ⟨x,y,k⟩:=t;rcases Jz h with e | e | e | e <;> (dsimp only at e;subst e;simp [mvt,mz,kdT,outX,outY,mk4];omega)
theorem side_mz {x y k:Int} (hl:lineB v c=true) (a:0≤k∧k≤3):sideN (bkW v) (bkC v c) (-x - 1) y (mk4 k)=if v=1 then sideN v c x y k else - sideN v c x y k:=by
 have h:=of_decide_eq_true hl;have b:v=0∨v=1∨v=2∨v=3:=γ;have d:=h.2.2.2.2;clear h hl;rcases b with rfl | rfl | rfl | rfl <;> rcases Jz a with rfl | rfl | rfl | rfl <;> (try simp [sideN,bkW,bkC,mk4,alongOf,c1x,c1y,c2x,c2y,stX,stY]) <;> (repeat' split) <;> first | omega | rfl
theorem bk_line (hl:lineB v c=true):lineB (bkW v) (bkC v c)=true:=by
 have h:=of_decide_eq_true hl;rw [lineB,decide_eq_true_iff];have a:v=0∨v=1∨v=2∨v=3:=γ;rcases a with rfl | rfl | rfl | rfl <;> (simp [bkW,bkC];omega)
theorem crS_sg {b:Nat→Int} (h:∀ i j,i<L.length→j<L.length→(s i=s j↔b i=b j)):crS L s=crS L b:=by
 funext e
 unfold crS;rw [Bool.eq_iff_iff];simp only [List.all_eq_true,List.mem_range,Bool.or_eq_true,decide_eq_true_eq];exact ⟨fun k i hi j a=>(k i hi j a).imp id (h i j hi a).1,fun k i hi j a=>(k i hi j a).imp id (h i j hi a).2⟩
theorem Up {cr:E4→Bool} {q:Nat→Int} (a:L.Nodup) (hp:PartsOk cr L p) (hq:PartsOk cr L q):∀ n i,i<n→i<L.length→p i=q i
 | 0,i,h,_=>by omega
 | n+1,i,h,hi=>by
  rcases Int.lt_trichotomy (p i) (q i) with h1 | h1 | h1
  ·obtain ⟨b,hb,e⟩:=hq.2.2.2 i hi (p i) (hp.1 i hi) h1;have:=Up a hp hq n b γ γ;have:=Ze a hp hq γ hi (show p b=p i by omega);omega
  ·exact h1
  ·obtain ⟨b,hb,e⟩:=hp.2.2.2 i hi (q i) (hq.1 i hi) h1;have:=Up a hp hq n b γ γ;have:=Ze a hq hp γ hi (show q b=q i by omega);omega
theorem fcs_congr {q:Nat→Int}:∀ n,(∀ i,i<n→p i=q i)→fcs L p n=fcs L q n
 | 0,_=>rfl
 | n+1,h=>by
  rw [fcs,fcs,fcs_congr n fun i hi=>h i γ,h n γ]
theorem sum_set:∀ (F:List (List T3)) (p:Nat) (t:T3),p<F.length→((F.set p (F.getD p [] ++ [t])).map List.length).sum=(F.map List.length).sum+1
 | [],p,t,h=>by simp at h
 | f :: F,0,t,h=>by simp;omega
 | f :: F,p+1,t,h=>by
  have:=sum_set F p t (by simpa using h);simp only [List.set_cons_succ,List.map_cons,List.sum_cons,List.getD_cons_succ] at *;omega
theorem putF_sum {F:List (List T3)} {p:Nat} (h:p≤F.length):((putF F p t).map List.length).sum=(F.map List.length).sum+1:=by
 unfold putF;rw [sum_set _ _ _ (by rw [Ug];split <;> omega)];unfold grwF;split <;> simp
theorem fcs_sum (h:NumOk p n):∀ i,i≤n→((fcs L p i).map List.length).sum=i
 | 0,_=>by simp [fcs]
 | i+1,hi=>by
  rw [fcs,putF_sum (by have:=(fcs_has L p h i γ).2 γ;omega),fcs_sum h i γ]
theorem grwF_at (F:List (List T3)) (p q:Nat):(grwF F p).getD q []=F.getD q []:=by
 unfold grwF;split
 ·rw [List.getD_eq_getElem?_getD,List.getD_eq_getElem?_getD,List.getElem?_append];split
  ·rfl
  ·next h =>
   rw [List.getElem?_eq_none (l:=F) γ]
   cases q - F.length <;> rfl
 ·rfl
theorem putF_mem {F:List (List T3)} {p q:Nat} {u:T3} (a:u∈(putF F p t).getD q []):u∈F.getD q []∨q=p∧u=t:=by
 unfold putF at a;rw [List.getD_eq_getElem?_getD,List.getElem?_set] at a;split at a
 ·next e =>
  split at a
  ·rw [Option.getD_some,grwF_at,List.mem_append] at a;rcases a with a | a
   ·exact Or.inl (e ▸ a)
   ·exact Or.inr ⟨e.symm,by simpa using a⟩
  ·simp at a
 ·rw [← List.getD_eq_getElem?_getD,grwF_at] at a;exact Or.inl a
theorem fcs_mem (h:NumOk p n):∀ i,i≤n→∀ (q:Nat) (u:T3),u∈(fcs L p i).getD q []→∃ k,k<i∧p k=(q:Int)∧u=L.getD k (0,0,0)
 | 0,_,q,_,hu=>by simp [fcs] at hu
 | i+1,hi,q,u,hu=>by
  have h0:=h.1 i γ;rcases putF_mem hu with h2 | ⟨h1,h2⟩
  ·obtain ⟨k,a,e1,e2⟩:=fcs_mem h i γ q u h2;exact ⟨k,γ,e1,e2⟩
  ·exact ⟨i,γ,γ,h2⟩
def IsPc (L:List T3) (sd:Nat→Int) (F:List (List T3)):Prop := ∃ part,PartsOk (crS L sd) L part∧F=fcs L part L.length
theorem isPc_uni {b:Nat→Int} {F c:List (List T3)} (a:L.Nodup) (h:∀ i j,i<L.length→j<L.length→(s i=s j↔b i=b j)) (k:IsPc L s F) (d:IsPc L b c):F=c:=by
 obtain ⟨p,hp,rfl⟩:=k;obtain ⟨q,hq,rfl⟩:=d;rw [← crS_sg h] at hq;exact fcs_congr _ fun i hi=>Up a hp hq _ i hi hi
theorem isPc_side {F:List (List T3)} (d:StripD L) (h1:∀ i,i<L.length→s i≠0) (k:IsPc L s F):PcD L s F:=by
 obtain ⟨p,hp,rfl⟩:=k;have x:=hp.num;have hl:=fcs_le L p L.length;have C:=d.le;have hpos:=d.pos;have hs:=fcs_sum (L:=L) x L.length (Nr _);refine ⟨fun e=>by rw [e] at hs;simp at hs;omega,γ,hs,fun i hi=>?_⟩;by_cases hx:∃ k,k<L.length∧p k=(i:Int)
 ·obtain ⟨k,r,ek⟩:=hx;refine ⟨s k,h1 k r,fun j g v=>?_⟩;obtain ⟨m,c,em,h⟩:=fcs_mem x _ (Nr _) i _ (by rw [List.getD_eq_getElem?_getD,List.getElem?_eq_getElem hi];exact v);rw [Qq L m c] at h;obtain rfl:=Jp d.nd g c h
  have:=(hp.2.2.1 k j r g γ).2 (fun u=>∃ j,∃ g:j<L.length,L[j]=u∧s j=s k) ⟨k,r,rfl,rfl⟩ (fun a b B hb n=>by
   obtain ⟨H,l,rfl,e1⟩:=B;obtain ⟨A,f,rfl⟩:=List.mem_iff_getElem.1 hb;obtain ⟨y,e,E,G,z⟩:=n;refine ⟨A,f,rfl, ?_⟩;rw [crS_is d.nd (fun t D=>kd_of d D) l f (fun q=>y (by simp [q])) E G] at z;have:=of_decide_eq_true z;omega)
  obtain ⟨J,o,e1,e2⟩:=this;rw [Jp d.nd g o e1.symm];exact e2
 ·refine ⟨1,γ,fun j g v=>?_⟩;obtain ⟨m,c,em,h⟩:=fcs_mem x _ (Nr _) i _ (by rw [List.getD_eq_getElem?_getD,List.getElem?_eq_getElem hi];exact v);exact absurd ⟨m,c,em⟩ hx
theorem tris_c {d:Dg} (q:ShOk W H L) (n:GdC B C L d) (s:C≤10000) {f:Option Addr} (c2 c3:Nat) (w:World) (g:StC (W*H) L d f a3 a4 a5 w) (hs:Steps w) :
  Cl 7 #[.agg #[I (W:Int),I (H:Int),.slice f (W*H) c2,.slice a3 (Dg.cs d).length c3]] w fun e w'=>∃ ta tc,e=.returned (.tuple #[.slice ta L.length tc,I 0])∧TRow w' ta L∧Bl w w':=by
 have m:=n.cn
 have j:Hid (∀ V:World,Bl w V→Cl 20 #[.agg #[I (W:Int),I (H:Int),.slice f (W*H) c2,.slice a3 (Dg.cs d).length c3]] V fun e w'=>∃ b k h i,e=.returned (.tuple #[.agg #[.slice b L.length k,.map (some h),.map (some i)],.bool true])∧TRow w' b L∧Bl V w'):=fun V l=>by
  refine (lay_gc q d.cs f a3 c2 c3 V (g.z.kept l) g.za (g.k.kept l) (hs.kept l) n.cr γ).mono ?_;rintro e w' ⟨b,k,base,h,i,rfl,o⟩;obtain ⟨a,c,e1,r⟩:=Yt o.1
  cases e1;exact ⟨b,k,h,i,rfl,r,o.2.2.2.2⟩
 clear g hs m;go_enter Tryz.func7,Tryz.ntmps7;go_wp2_with (go_at_call 20;refine (j.out _ Δ).mono ?_;rintro e w1 ⟨b,k,h,i,rfl,p,hb⟩;have H1:Hid (TRow w1 b L∧Bl w w1):=⟨p,Qb Δ hb⟩;clear p hb)
 go_ret2
 exact ⟨b,k,rfl,H1.out.1.kept β1,Qc H1.out.2⟩
theorem of_gq {d:Dg} (x:ShOk W H L) (b:GdC B C L d) (M:C≤3518437208883) {u v:Option Addr} (o p y A:Nat) (w:World) (c:StQ (W*H) L d a0 c0 u v w) (hs:Steps w) :
  Cl 15 #[.agg #[I (W:Int),I (H:Int),.slice a0 (W*H) o,.slice c0 d.cs.length p,.slice u L.length y,.slice v (gS L d).length A]] w fun e w'=>∃ h f k l n j q pa pc g,e=.returned (.tuple #[.agg #[.slice f L.length k,.map (some l),.map (some n),.slice (Az j) L.length q,.slice pa L.length pc],.func (.func 87) #[] #[.pointer (Az g)],.bool true])∧HgC L d h∧HandAt w w' f k l n j pa g L (gK d.cs) d.cs.length (gM d) h∧Bl w w':=by
 have a:=x.st;have J:=b.sl;have F:=a.le;have E:=b.cn;obtain ⟨st,K⟩:=b.sto a.nd;have r:SOk (kdn (gK d.cs) d.cs.length) L L.length (gM d) (gS L d):=⟨rfl,b.mo,st⟩;refine (of_yesw (W:Int) (H:Int) a0 c0 u v (W*H) o d.cs.length p L.length y A w (gK d.cs) d.cs.length L (gM d) (gS L d) hs (fun V t=>lay_gc x d.cs a0 c0 o p V (c.z.kept t) c.za (c.k.kept t) (hs.kept t) b.cr γ) (fun _=>c.m) c.s a.up a.pos γ a.bd γ (fun s h=>by have:=b.se s h;omega)).mono ?_;rintro e w' (⟨_,G⟩ | ⟨_,f,k,l,n,j,q,pa,pc,g,h,rfl,D,hl,hb⟩)
 ·exact absurd r G
 ·exact ⟨h,f,k,l,n,j,q,pa,pc,g,rfl,fun i hi=>lv_one9 a.nd st hl K hi,D,hb⟩
theorem GdC.tri {d:Dg} (a:GdC B C L d):∀ t∈pls L (gM d) L.length,triB t.1 t.2.1 t.2.2=true:=fun t b=>by
 obtain ⟨i,hi,rfl⟩:=List.mem_iff_getElem.1 b;rw [Qu] at hi;have:=(a.mo.1 i hi).2;have e:(pls L (gM d) L.length)[i]'(by rw [Qu];exact hi)=mvt (gM d i) (L.getD i (0,0,0)):=by rw [← Jm hi,List.getD_eq_getElem?_getD,List.getElem?_eq_getElem (by rw [Qu];exact hi),Option.getD_some]
 rw [e];exact this
theorem pieces_c {d:Dg} (b:ShOk W H L) (j:GdC B C L d) (A:C≤10000) {l:Int} (hl:lineB v l=true) {f:Option Addr} (c2 c3 c4 g:Nat) (w:World) (p:StQ (W*H) L d f a3 a4 a5 w) (hs:Steps w) :
  Cl 6 #[.agg #[I (W:Int),I (H:Int),.slice f (W*H) c2,.slice a3 (Dg.cs d).length c3,.slice a4 L.length c4,.slice a5 (gS L d).length g],.agg #[I v,I l]] w fun e w'=>∃ pa pc F,e=.returned (.tuple #[.slice pa (List.length F) pc,I 0])∧IsPc L (sdN v l (pls L (gM d) L.length)) F∧PcRow w' pa F∧Bl w w':=by
 have t:=b.st.le;refine (pieces_ok (W:Int) (H:Int) v l f a3 a4 a5 (W*H) c2 d.cs.length c3 L.length c4 (gS L d).length g L.length L (gKd d) (fun M=>M=gM d) w rfl b.st.pos γ hl hs b.st.nd b.st.bd (fun M r=>by rw [r];exact j.tri) (fun V m=>(of_gq b j γ c2 c3 c4 g V (p.kept m) (hs.kept m)).mono ?_)).mono ?_
 ·rintro e w' ⟨h,n,k,x,y,o,i,pa,pc,z,rfl,D,q,hb⟩;exact ⟨gM d,n,k,x,y,o,i,pa,pc,_,rfl,q.pile i pc,rfl,hb⟩
 ·rintro e w' ⟨M,u,part,rfl,rfl,hp,s,hb⟩;obtain ⟨a,c,rfl,hr⟩:=nest_prow s;exact ⟨a,c,_,rfl,⟨part,hp,rfl⟩,hr,hb⟩
theorem plc_c {d:Dg} (o:StripD L) (j:GdC 192 C L d) (hi:i<L.length):(-300≤(mvt (gM d i) L[i]).1∧(mvt (gM d i) L[i]).1≤300)∧(-300≤(mvt (gM d i) L[i]).2.1∧(mvt (gM d i) L[i]).2.1≤300):=by
 have h1:=(j.mo.1 i hi).1;have h2:=j.bd i hi;have h3:=o.bd _ (Lm hi);obtain ⟨⟨a,b,c,e,f,g⟩,l⟩:∃ m,m=gM d i:=⟨_,rfl⟩;obtain ⟨⟨x,y,k⟩,n⟩:∃ t,t=L[i]:=⟨_,rfl⟩;rw [← l] at h1 h2;rw [← n] at h3;rw [← l,← n];dsimp only at h2 h3;have h:=Xh (show mapB a b c e f g=true from h1);unfold mvt;dsimp only;rcases h with ⟨rfl | rfl,rfl,rfl,rfl | rfl⟩ | ⟨rfl,rfl | rfl,rfl | rfl,rfl⟩ <;> omega
theorem kd_at (a:StripD L) (hi:i<L.length):Kd L[i]:=kd_of a (Lm hi)
theorem tz_mo {d:Dg} (g:StripD L) (b:GdC 192 C L d):MOk (gKd d) L (tz (gM d)):=by
 refine ⟨fun i hi=>?_,fun i hi q hq j l=>?_⟩
 ·have h1:=(b.mo.1 i hi).1;have hb:=plc_c g b hi;refine ⟨map_mz h1, ?_⟩;rw [Qq L i hi];unfold tz;rw [Zw h1 (kd_at g hi),mvt_mz Vm];have n:Kd (mvt (gM d i) L[i]):=Vm;unfold Kd at n;rw [triT,triB,decide_eq_true_iff];dsimp only;unfold mk4;refine ⟨?_, ?_, ?_⟩
  ·split
   ·omega
   ·split <;> omega
  ·split
   ·omega
   ·split <;> omega
  ·omega
 ·have h:=b.mo.2 i hi q hq j l
  obtain ⟨m,f,c,_⟩:∃ m:Nat,j=m∧m<L.length∧True:=by
   obtain ⟨k,n,e,m,f,e1,o,p⟩:=Xw.1 hq;refine ⟨m, ?_,f,trivial⟩;rw [e1] at l;omega
  subst f;have a:=(b.mo.1 j c).1;have h2:=(bynd_iff a).1 h;refine (bynd_iff (map_mz a)).2 ?_;show aft (gM d j) mz=farM _ _ (aft (gM d i) mz)
  rw [h2];unfold farM;split
  ·rfl
  ·exact aft_assoc _ _ _
theorem mo_like {kd:E4→Int} {c:Nat→M6} (h:MOk kd L M) (e:∀ i,i<L.length→c i=M i):MOk kd L c:=by
 refine ⟨fun i hi=>?_,fun i hi q hq j d=>?_⟩
 ·unfold MOk1;rw [e i hi];exact h.1 i hi
 ·obtain ⟨m,b,a⟩:∃ m:Nat,j=m∧m<L.length:=by
   obtain ⟨k,l,e,m,b,e1,f,g⟩:=Xw.1 hq;refine ⟨m, ?_,b⟩;rw [e1] at d;omega
  subst b;rw [e i hi,e j a];exact h.2 i hi q hq j d
def TnC (L:List T3) (d d2:Dg):Prop:=GdC 192 384 L d2∧∀ i,i<L.length→gM d2 i=tz (gM d) i
theorem turn_c {d:Dg} (G:ShOk W H L) (l:GdC 192 384 L d) {n:Option Addr} (c2 c3 c4 y:Nat) (w:World) (A:StC (W*H) L d n a3 a4 a5 w) (hs:Steps w) :
  Cl 10 #[.agg #[I (W:Int),I (H:Int),.slice n (W*H) c2,.slice a3 (Dg.cs d).length c3,.slice a4 L.length c4,.slice a5 (gS L d).length y]] w fun e w'=>∃ d2 n c2 a3 c3 a4 c4 a5 y,e=.returned (.tuple #[.agg #[I (W:Int),I (H:Int),.slice n (W*H) c2,.slice a3 (Dg.cs d2).length c3,.slice a4 L.length c4,.slice a5 (gS L d2).length y],I 0])∧TnC L d d2∧StQ (W*H) L d2 n a3 a4 a5 w'∧Bl w w':=by
 have r:=G.st;have a7:=r.le;have Q:=l.cn;have F:=G.w1;have C:=G.h1;have a8:1≤W*H:=Nat.mul_pos F.1 C.1;have a6:W*H≤64:=Nat.mul_le_mul F.2 C.2;have P:n=none∨∃ p off,n=Ad p off:=Or.inr A.za
 have E:=turn_ok (W:Int) (H:Int) n a3 a4 a5 (zW (W*H)) c2 d.cs.length c3 L.length c4 (gS L d).length y (gK d.cs) (gKd d) L (gM d) (gH d) w
  (fun V Z=>by
   rw [Ju];refine (of_gq G l γ c2 c3 c4 y V (A.q.kept Z) (hs.kept Z)).mono ?_;rintro e w' ⟨h,ad,k,ra,rk,gm,U,pa,pc,bf,rfl,hh,Y,hb⟩;exact ⟨ad,k,ra,rk,gm,U,pa,pc,bf,rfl,Y.pile U pc,(Y.2.2.2.like hh).hg,hb⟩)
  hs r.pos γ r.bd l.mo.1 A.z A.k (Zq _) γ5 γ P A.ka
  (fun i j hi x J R hh=>?_) (tz_mo r l)
 ·rw [Ju] at E;refine E.mono ?_;rintro e w' ⟨a',K,b',M,g,c,t,u,v,rfl,hz,hk,hM,_,N,O,hb⟩;obtain ⟨d2,B⟩:∃ d2:Dg,d2=⟨d.cs,(List.range L.length).map (tz (gM d)),v,(List.range L.length).map (hpos v)⟩:=⟨_,rfl⟩;have e0:d2.cs=d.cs:=by rw [B]
  have e1:d2.T=v:=by rw [B]
  have e2:∀ i,i<L.length→gM d2 i=tz (gM d) i:=fun i hi=>by
   rw [B];show ((List.range L.length).map (tz (gM d))).getD i idM=_
   rw [List.getD_eq_getElem?_getD];simp [hi]
  have D:Heap L.length (gP L d2) (fun i=>-gH d i) v:=Vp N (fun i hi=>by
   show (pls L (tz (gM d)) L.length).getD i (0,0,0)=_
   rw [Jm hi,gP,e2 i hi]) fun _ _=>rfl
  have X:gS L d2=v.map fun s=>(s.1,tgn L s.2):=by rw [gS,e1]
  have e4:(gS L d2).length=List.length v:=by rw [X,List.length_map]
  refine ⟨d2,a',K,b',M,Az g,c,t,u,by rw [e0,e4],⟨⟨?_, ?_, ?_, ?_,by rw [e0];exact Q,fun i hi=>?_⟩,e2⟩,⟨hz.row, ?_,by rw [e0];exact hk.row,⟨g,rfl,hM.like fun i hi=>(e2 i hi).symm⟩,by rw [X];exact O.row⟩,hb⟩
  ·rw [e0];exact l.cr
  ·have:gKd d2=gKd d:=by rw [gKd,gKd,e0]
   rw [this];exact mo_like (tz_mo r l) e2
  ·rw [e1];have h:=heap_hl D d.cs ((List.range L.length).map (tz (gM d)));rw [← B] at h;exact h
  ·have h:=heap_ol (L:=L) D d.cs ((List.range L.length).map (tz (gM d)));rw [← B] at h;exact h
  ·rw [e2 i hi];have:=l.bd i hi;obtain ⟨⟨a,b,c,e,f,q⟩,hm⟩:∃ m,m=gM d i:=⟨_,rfl⟩;unfold tz;rw [← hm] at this ⊢;rw [aft_mz];dsimp only at this ⊢;omega
  ·obtain ⟨q,o,e,_⟩:=hz.row 0 γ5;exact ⟨q,o,e⟩
 ·have hp:gP L d i=gP L d j:=by
   rw [Jm hi,Jm x,Qq L i hi,Qq L j x] at J;unfold tz at J;rw [Zw (l.mo.1 i hi).1 (kd_at r hi),Zw (l.mo.1 j x).1 (kd_at r x)] at J;have:=mvt_inj map_mzZ (show Kd (mvt (gM d i) L[i]) from Vm) (show Kd (mvt (gM d j) L[j]) from Vm) J;rw [gP,gP,Qq L i hi,Qq L j x];exact this
  exact heap_dis l.hp hi x hp R γ
theorem sd_tz {d d2:Dg} (e:StripD L) (b:GdC 192 384 L d) (f:TnC L d d2) (hl:lineB v c=true) (hi:i<L.length):sdN (bkW v) (bkC v c) (pls L (gM d2) L.length) i=if v=1 then sdN v c (pls L (gM d) L.length) i else - sdN v c (pls L (gM d) L.length) i:=by
 have a:Kd (mvt (gM d i) L[i]):=Vm;unfold sdN;rw [Jm hi,Jm hi,Qq L i hi,f.2 i hi];unfold tz;rw [Zw (b.mo.1 i hi).1 (kd_at e hi),mvt_mz a];exact side_mz hl a
theorem side_ne (v c x y k:Int):sideN v c x y k≠0:=by
 unfold sideN;split <;> omega
def rkS (W i:Nat):Nat:=if i<4*W then gR i else 1000 + [0,1,2,1].getD (i % 4) 0
def okR (r:Nat→Nat) (L:List T3) (J:List (Nat×C5)):Bool :=
 (List.range L.length).all (fun i=>(List.range i).all fun k=>ltTb (L.getD k (0,0,0)) (L.getD i (0,0,0))) &&
 L.all (fun t=>decide ((0≤t.1∧t.1≤8)∧(0≤t.2.1∧t.2.1≤8)∧(0≤t.2.2∧t.2.2≤3))) && decide (0<L.length∧L.length≤32) &&
 (List.range L.length).all (fun i=>decide ((jl L (L.getD i (0,0,0)) i 3).length≤3)) &&
 ((List.range L.length).all fun i=>decide (i=0) || J.any fun p=>decide (r p.1<r i) && decide (p.2.2=(i:Int))) && decide (J.length≤100000)
theorem okR_strip {r:Nat→Nat} (h:okR r L (gJs L)=true):StripD L∧(gJs L).length≤100000:=by
 unfold okR at h;simp only [Bool.and_eq_true] at h;obtain ⟨⟨⟨⟨⟨h1,h2⟩,h3⟩,h5⟩,h4⟩,h6⟩:=h;have up:L.Pairwise ltT:=all_pairs (f:=ltTb) (fun a b h=>(ltTb_iff _ _).1 h) L (0,0,0) h1;have nd:L.Nodup:=up_nodup up;obtain ⟨d,m⟩:=of_decide_eq_true h3;refine ⟨⟨up,nd,fun t l=>of_decide_eq_true (List.all_eq_true.1 h2 t l),d,m,⟨d, ?_⟩,fun i hi=>of_decide_eq_true (List.all_eq_true.1 h5 i (by simp [hi]))⟩,of_decide_eq_true h6⟩
 have:∀ q i,r i=q→∀ hi:i<L.length,Reach L L[0] L[i]:=by
  intro q;induction q using Nat.strongRecOn with
  | _ q ih =>
  intro i hr hi;have:=List.all_eq_true.1 h4 i (by simp [hi]);simp only [Bool.or_eq_true,decide_eq_true_eq,List.any_eq_true,Bool.and_eq_true] at this;rcases this with rfl | ⟨⟨k,e,j⟩,hp,g,c⟩
  ·exact Reach.here (Lm _)
  ·dsimp only at g c;subst c;obtain ⟨a,b,c1,c2,c3⟩:=js_adj nd hp;exact (ih (r k) γ k rfl a).step (Lm _) ⟨c1,e,c2,c3⟩
 exact fun i=>this (r i) i rfl
def shL (W H:Nat):List T3:=ty (zW (W*H)) W H
theorem shL_all:((List.range 4).all fun w=>(List.range 2).all fun h=>okR (rkS (w+1)) (shL (w+1) (h+1)) (gJs (shL (w+1) (h+1))))=true:=by decide +kernel
theorem shOk (b:1≤W∧W≤4) (a:1≤H∧H≤2):ShOk W H (shL W H):=by
 have h1:=List.all_eq_true.1 (List.all_eq_true.1 shL_all (W - 1) ψ) (H - 1) ψ;have e1:W - 1+1=W:=γ;have e2:H - 1+1=H:=γ;rw [e1,e2] at h1;obtain ⟨h2,h3⟩:=okR_strip h1;exact ⟨γ,γ,rfl,h2,h3⟩
def FltTo (w w':World) (W H:Int) (zl N:Nat) (S5:Nat→Option Addr→Nat→Option Addr→Nat→Option Addr→Nat→Option Addr→Nat→Nat→World→Prop) (e:Ending):Prop := ∃ base a1 c1 b1 c2 m1 c3 p1 sn c4,e=.returned (.tuple #[.agg #[I W,I H,.slice a1 zl c1,.slice b1 0 c2,.slice m1 N c3,.slice p1 sn c4],I 0])∧S5 base a1 c1 b1 c2 m1 c3 p1 sn c4 w'∧w.heap.size≤base∧Bl w w'
theorem row_zero9 (w:World):Row (w.alloc (.cells #[I 0] 3)) (Az w.heap.size) [0]:=fun i hi=>by
 have:i=0:=by simpa using hi
 subst this;exact ⟨_,_,rfl,ζ⟩
theorem flat_step2 (j i:Int) (a:Option Addr) (l u N:Nat) (w:World)
  (q:Nat→Option Addr→Nat→Option Addr→Nat→Option Addr→Nat→Option Addr→Nat→Nat→World→Prop)
  (A:∀ (V z:World) (base b:Nat) (a1:Option Addr) (c1:Nat) (b1:Option Addr) (c2:Nat) (c:Option Addr) (c3:Nat) (d:Option Addr) (f c4:Nat),q base a1 c1 b1 c2 c c3 d f c4 V→V.grownBy z (some b)→b<base→q base a1 c1 b1 c2 c c3 d f c4 z)
  (r:∀ (V:World) (g:Nat),Bl w V→Row V (Az g) [0]→Cl 36 #[.agg #[I j,I i,.slice a l u,SN],.slice (Az g) 1 1] V fun e w'=>∃ a1 c1 b1 c2 c c3 d f c4,e=.returned (.tuple #[.agg #[I j,I i,.slice a1 l c1,.slice b1 0 c2,.slice c N c3,.slice d f c4],I 0])∧q V.heap.size a1 c1 b1 c2 c c3 d f c4 w'∧Bl V w') :
  Cl 11 #[.agg #[I j,I i,.slice a l u,SN]] w fun e w'=>FltTo w w' j i l N q e:=by
 have K:=Hd A;have t:=Hd r;clear A r;go_enter Tryz.func11,Tryz.ntmps11;go_upto_region 1 with fail
 refine Qj (fun m hW0=>?_);have o:Bl w m:=by rw [hW0];exact Qc β1
 have J:At m w.heap.size 0 (I j):=η;have Q:At m w.heap.size 1 (I i):=η;have R:At m w.heap.size 2 (.slice a l u):=η;have T:At m w.heap.size 3 SN:=η;have Y:=Bt J
 have HX:Hid (BX6 m (w.heap.size+1) (I 0) (I 0) SN SN SN SN):=by
  have:BX6 m (w.heap.size+1) (I 0) (I 0) SN SN SN SN:=by rw [hW0];simp [BX6,go_sem]
  exact this
 clear hW0;have M:=Hd (bk HX.out.1.1);go_wp2_with (go_at_call 36;refine (t.out _ _ (by with_reducible exact Qc o) (row_zero9 _)).mono ?_;rintro e p ⟨a1,c1,b1,c2,c,c3,d,f,c4,rfl,x,n⟩;have H2:Hid (q (m.heap.size+1) a1 c1 b1 c2 c c3 d f c4 p∧BX6 p (w.heap.size+1) (I 0) (I 0) SN SN SN SN∧Bl w p):=(by rw [World.size_alloc] at x;exact ⟨x,(HX.out.kept β1).kept n,Qb (Qc o) n⟩);clear x n J Q R T Y o;obtain ⟨⟨r0,r1,r2,r3,O,P⟩,U,y1,y2,y3,W,X⟩:=H2.out.2.1;have H:=bk r0;dsimp only at H)
 have y:=Jf p (w.heap.size+1) (I j) (I i) (.slice a1 l c1) (.slice b1 0 c2) (.slice c N c3) (.slice d f c4);have L:=(H2.out.2.1.put (g0:=I j) (g1:=I i) (g2:=.slice a1 l c1) (g3:=.slice b1 0 c2) (g4:=.slice c N c3) (g5:=.slice d f c4)).1;have Z:=M.out
 have s:FltTo w (setBX6 p (w.heap.size+1) (I j) (I i) (.slice a1 l c1) (.slice b1 0 c2) (.slice c N c3) (.slice d f c4)) j i l N q (.returned (.tuple #[.agg #[I j,I i,.slice a1 l c1,.slice b1 0 c2,.slice c N c3,.slice d f c4],I 0])) :=
  ⟨m.heap.size+1,a1,c1,b1,c2,c,c3,d,f,c4,rfl,K.out _ _ _ _ _ _ _ _ _ _ _ _ _ H2.out.1 y γ,γ,H2.out.2.2.grown y H2.out.2.2.size (fun k h=>by cases h;omega)⟩
 obtain ⟨B,C,D,E,F,G⟩:=L;clear r0 r1 r2 r3 O P U y1 y2 y3 W X H;refine bodyPost_ret (w:=setBX6 p (w.heap.size+1) (I j) (I i) (.slice a1 l c1) (.slice b1 0 c2) (.slice c N c3) (.slice d f c4)) (v:=.tuple #[.agg #[I j,I i,.slice a1 l c1,.slice b1 0 c2,.slice c N c3,.slice d f c4],I 0]) ?_ rfl s;generalize setBX6 p (w.heap.size+1) (I j) (I i) (.slice a1 l c1) (.slice b1 0 c2) (.slice c N c3) (.slice d f c4)=wz at B C D E F G ⊢;simp [results,Tryz.results11,go_sem,B,C,D,E,F,G]
theorem part_zero {cr:E4→Bool} (c:StripD L) (o:∀ e,cr e=true) {part:Nat→Int} (hp:PartsOk cr L part):topP part L.length=0:=by
 have h0:=partsOk_le hp 0 c.pos
 have h:∀ i,i<L.length→part i=part 0:=fun i hi=>by
  obtain ⟨m,hr⟩:=c.jo
  obtain ⟨j,d,e,q⟩:=(hr i hi).2 (fun u=>∃ j,∃ d:j<L.length,L[j]=u∧part j=part 0) ⟨0,c.pos,rfl,rfl⟩ (fun a b n hb f=>by
   obtain ⟨j,d,rfl,q⟩:=n;obtain ⟨k,l,rfl⟩:=List.mem_iff_getElem.1 hb;obtain ⟨g,e,p,r⟩:=f;exact ⟨k,l,rfl,(hp.2.1 j k d l ⟨g,e,p,r,o e⟩).trans q⟩)
  rw [← Jp c.nd d hi e];exact q
 obtain ⟨i,hi,e⟩:=topP_at (part:=part) c.pos;rw [← e,h i hi];omega
theorem mvt_id (h:(0≤t.1∧t.1≤8)∧(0≤t.2.1∧t.2.1≤8)∧(0≤t.2.2∧t.2.2≤3)):triT (mvt idM t)=true:=by
 obtain ⟨x,y,k⟩:=t;obtain ⟨h1,h2,h3⟩:=h;dsimp only at h1 h2 h3;rcases Jz h3 with rfl | rfl | rfl | rfl <;> (simp [mvt,idM,triT,triB,kdT,outX,outY];omega)
theorem flat_gc (o:ShOk W H L) (a:Option Addr) (A l:Nat) (w:World) (hr:w.ownsRow l 3 1 (.slice a (W*H) A) (W*H) (f15 (W*H))) (hs:Steps w) :
  Cl 11 #[.agg #[I (W:Int),I (H:Int),.slice a (W*H) A,SN]] w fun e w'=>FltTo w w' (W:Int) (H:Int) (W*H) L.length (fun base a1 c1 b1 c2 D c3 E J c4 V=>P5x 0 0 (W*H) L base (.slice a1 (W*H) c1) (.slice b1 0 c2) (.slice D L.length c3) (.slice E J c4) V) e:=by
 have n:=o.st;have z:=o.w1;have r:=o.h1;have Z:1≤W*H:=Nat.mul_pos z.1 r.1;obtain ⟨a',K,O,G⟩:=Yu (zs:=zW (W*H)) hr γ5
 cases O;obtain ⟨b,off,e,_⟩:=G.row 0 γ5;subst e;refine flat_step2 (W:Int) (H:Int) _ (W*H) A L.length w _ (fun V V' base b a1 c1 b1 c2 D c3 E J c4 h hg hb=>h.grown hg hb) (fun V g C hg=>?_);have x:=lay_any W H b off A 0 0 1 none (Az g) (zW (W*H)) [] [0] V (G.row.kept C) z r (Ju _) (by simp [maskB,zW]) (fun i hi=>by simp at hi) rfl γ (Or.inl rfl) (hs.kept C) (by rw [o.e];exact n.jo) (fun i hi=>by omega) hg;rw [o.e,Ju] at x;have f:Cons (kdn [] 0) L (fun _=>idM):=⟨rfl,fun i j _ _ e _ _ _=>rfl⟩;refine x.mono ?_;rintro e w' (⟨M,part,U,hp,hb,h⟩ | ⟨X,_⟩)
 ·have Y:=part_zero n (fun e=>by simp [kdn]) hp;rcases h with ⟨h,_⟩ | ⟨_,h,_⟩ | ⟨_,_,v,rfl,a1,c1,b1,c2,g1,c3,t,u,k,Q,F,q2,q3,q4,q5,q6,q7⟩
  ·rw [Y] at h;exact absurd rfl h
  ·exact absurd ν h
  ·cases Q;have m:∀ i,i<L.length→M i=idM:=fun i hi=>cons_one n.jo n.nd U f i hi;obtain ⟨d,p⟩:∃ d:Dg,d=⟨[],(List.range L.length).map fun _=>idM,k,(List.range L.length).map (hpos k)⟩:=⟨_,rfl⟩
   have c:∀ i,gM d i=idM:=fun i=>by
    rw [p];show ((List.range L.length).map fun _=>idM).getD i idM=idM
    rw [List.getD_eq_getElem?_getD];by_cases q:i<L.length
    ·simp [q]
    ·rw [List.getElem?_eq_none ψ];rfl
   have B:∀ i,i<L.length→(plcA (pls L M L.length)) i=gP L d i:=fun i hi=>by
    show (pls L M L.length).getD i (0,0,0)=_
    rw [Jm hi,m i hi,gP,c]
   have y:Heap L.length (gP L d) (hgt [0] (lbs part L.length)) k:=Vp q5 B fun _ _=>rfl;have e1:d.T=k:=by rw [p]
   have e2:d.cs=[]:=by rw [p]
   have R:GdC 0 0 L d:=by
    refine ⟨fun i hi=>by rw [e2] at hi;simp at hi,⟨fun i hi=>?_,fun i hi q hq j hj=>?_⟩, ?_, ?_,by rw [e2];simp,fun i hi=>by rw [c];decide⟩
    ·unfold MOk1;rw [c,Qq L i hi];exact ⟨τ,mvt_id (n.bd _ (Lm hi))⟩
    ·rw [c,c];unfold bynd;rw [if_pos (by simp [gKd,e2,kdn])]
    ·rw [e1];have h:=heap_hl y [] ((List.range L.length).map fun _=>idM);rw [← p] at h;exact h
    ·have h:=heap_ol (L:=L) y [] ((List.range L.length).map fun _=>idM);rw [← p] at h;exact h
   rw [Ju] at F;have P:(gS L d).length=List.length k:=by rw [gS,List.length_map,e1]
   refine ⟨a1,c1,b1,c2,Az g1,c3,t,(k.map fun s=>(s.1,tgn L s.2)).length,u, ?_,⟨d,a1,c1,b1,c2,Az g1,c3,t,u,rfl,by rw [e2];rfl,rfl,by rw [P];simp,⟨F, ?_,⟨g1,rfl,q4,q3.like fun i hi=>by rw [m i hi,c]⟩, ?_⟩,R⟩,hb⟩
   ·simp only [Ju,List.length_map]
   ·rw [e2];exact q2
   ·have N:gS L d=k.map fun s=>(s.1,tgn L s.2):=by rw [gS,e1]
    rw [N];exact q6
 ·exact absurd ⟨_,f⟩ X
theorem gdc_up {a:Int} {d:Dg} (h:GdC B C L d) (e:B≤a) (c:C≤b):GdC a b L d:=⟨h.cr,h.mo,h.hp,h.ol,Nt h.cn c,fun i hi=>by have:=h.bd i hi;omega⟩
theorem topCut_any (r0 r1 r2 r3:Int) (K:Option Addr) (M N:Nat) (w:World) (hs:Steps w) (hl:StepsR w K M)
  (h0 : -9223372036854775808≤r0∧r0≤9223372036854775807) (h1 : -9223372036854775808≤r1∧r1≤9223372036854775807) (h2 : -9223372036854775808≤r2∧r2≤9223372036854775807) (h3 : -9223372036854775808≤r3∧r3≤9223372036854775807) :
  Rt 3 #[I r0,I r1,.slice K M N,I r2,I r3] w (.bool true):=by
 have b0:=Yg r0 (m:=4) τ;have b1:=Yg r1 (m:=2) τ;have b2:=Yg r2 (m:=4) τ;have b3:=Yg r3 (m:=21) τ;obtain ⟨W,hW⟩:∃ W:Nat,(W:Int)=1+pkN r0 4:=⟨(1+pkN r0 4).toNat,γ⟩;obtain ⟨H,hH⟩:∃ H:Nat,(H:Int)=1+pkN r1 2:=⟨(1+pkN r1 2).toNat,γ⟩;have g:ShOk W H (shL W H):=shOk γ γ;have y:1≤W*H:=Nat.mul_pos g.w1.1 g.h1.1;have Y:=g.st.le;obtain ⟨L,hL⟩:∃ L,L=shL W H:=⟨_,rfl⟩;rw [← hL] at g Y;clear hL;have r:lineB (pkN r2 4) (2*(pkN r3 21 - 8))=true:=by rw [lineB,decide_eq_true_iff];omega
 have K4:Cl 4 #[I r0,I r1,.slice K M N,I 4] w fun e w'=>FldTo (fun j base x2 x3 x4 x5 V=>P5x ((48*j:Nat):Int) (96*j) (W*H) L base x2 x3 x4 x5 V) w w' (W:Int) (H:Int) e:=by
  refine folded_w _ (pkN r0 4) (pkN r1 2) (W:Int) (H:Int) (W*H) hW hH b0 b1 r0 r1 K M N w hl (fun V V' j base t n2 c2 a3 n3 c3 a4 n4 c4 a5 n5 l h hb=>h.kept hb) (fun V V' j base b t n2 c2 a3 n3 c3 a4 n4 c4 a5 n5 l h hg hb=>h.grown hg hb) (fun V=>Jn r0 4 τ h0.1 h0.2 V) (fun V=>Jn r1 2 τ h1.1 h1.2 V) (fun V k=>full_xy W H (W*H) ν (Nt (Nat.mul_le_mul g.w1.2 g.h1.2) τ) V) (fun V base a ca k ho=>?_) (fun V j base t n2 c2 a3 n3 c3 a4 n4 c4 a5 n5 l m0 z m2 m4 m5 m3 n k U J=>?_) (fun V j base t n2 c2 a3 n3 c3 a4 n4 c4 a5 n5 l wy c sd ov ly ax ay ak n k U hc X a7 Z=>?_)
  ·refine (flat_gc g a ca base V ho (hs.kept k)).mono ?_;rintro e w' ⟨base,a1,c1,b1,c2,z,c3,O,sn,c4,rfl,R,v,x⟩;exact ⟨base,a1,_,c1,b1,_,c2,z,_,c3,O,_,c4,rfl,R,v,x⟩
  ·obtain ⟨d,a1,c1,b1,A,z,B,O,C,e1,e2,E,G,p,f⟩:=U
   cases e1
   cases e2
   cases E
   cases G;have o:=p.stc y;exact step_fold m0 z m2 m4 m5 m3 (W:Int) (H:Int) _ _ _ a5 _ l V J.1 J.2.1 J.2.2.1 J.2.2.2.1 J.2.2.2.2 (gS L d) rfl (Nt f.sl γ) (fun s hs=>⟨List.length_pos_iff.2 ((f.sto g.st.nd).1.ne s hs),Nt (f.se s hs) γ⟩) o.s (hs.kept k)
  ·obtain ⟨d,a1,c1,b1,A,z,B,O,C,e1,e2,E,G,p,f⟩:=U
   cases e1
   cases e2
   cases E
   cases G;have o:=p.stc y;have e5:((48*j:Nat):Int)+48=((48*(j+1):Nat):Int):=γ;have e6:96*j+96=96*(j+1):=γ;have hd:=do_c g f γ γ γ wy c sd ov ly ax ay ak hc X a7 Z c2 c3 c4 l V o (hs.kept k);rw [e5,e6] at hd;refine hd.mono ?_;rintro e w' (⟨D,rfl,a6,hb⟩ | ⟨u,a8,ab,aa,ac,ae,ad,af,ah,ag,ai,am,aj,rfl,R,v,x⟩)
   ·exact ⟨0,0,_,_,_,_,_,_,_,_,_,_,_,_,D,rfl,fun h=>absurd h a6,hb⟩
   ·exact ⟨_,_,_,_,_,_,_,_,_,_,_,_,_,_,0,rfl,fun _=>⟨rfl,rfl,u,R,v⟩,x⟩
 refine cut_law W H L γ r0 r1 r2 r3 (pkN r2 4) (pkN r3 21) (2*(pkN r3 21 - 8)) K M N w (fun d F=>IsPc L (sdN (pkN r2 4) (2*(pkN r3 21 - 8)) (pls L (gM d) L.length)) F) (TnC L) b2 b3 rfl (K4.mono ?_) (fun V=>Jn r2 4 τ h2.1 h2.2 V) (fun V=>Jn r3 21 τ h3.1 h3.2 V)
  (fun V d t c2 a3 c3 a4 c4 a5 l k f o=>pieces_c g f τ r c2 c3 c4 l V o.q (hs.kept k)) (fun V d t c2 a3 c3 a4 c4 a5 l k f o=>tris_c g f τ c2 c3 V o (hs.kept k)) (fun V d j n k f=>?_) (fun V d j n k f=>?_) (fun V d t c2 a3 c3 a4 c4 a5 l k f o=>turn_c g f c2 c3 c4 l V o (hs.kept k)) (fun V d d2 F t c2 a3 c3 a4 c4 a5 l k f T P o=>?_) (fun d F f P=>isPc_side g.st (fun i hi=>side_ne _ _ _ _ _) P)
 ·rintro e w' ⟨j,base,t,n2,c2,a3,n3,c3,a4,n4,c4,a5,n5,l,n,rfl,⟨d,a1,c1,b1,A,z,B,O,C,e1,e2,E,G,p,f⟩,hb⟩
  cases e1
  cases e2
  cases E
  cases G;exact ⟨d,t,c2,a3,c3,a4,c4,a5,l,rfl,gdc_up f γ γ,p.stc y,hb⟩
 ·have:=Move_in (gM d j) L[j] V (f.mo.1 j n).1 (g.st.bd _ (Lm n)) (hs.kept k) (by have:=(f.mo.1 j n).2;rwa [Qq L j n] at this);exact this
 ·have ht:triT (mvt (gM d j) L[j])=true:=by have:=(f.mo.1 j n).2;rwa [Qq L j n] at this
  have:=Vb (pkN r2 4) (2*(pkN r3 21 - 8)) (mvt (gM d j) L[j]).1 (mvt (gM d j) L[j]).2.1 (mvt (gM d j) L[j]).2.2 V ht r (hs.kept k);unfold sdN;rw [Jm n,Qq L j n];exact this
 ·refine (pieces_c g T.1 τ (bk_line r) c2 c3 c4 l V o (hs.kept k)).mono ?_;rintro e w' ⟨pa,pc,F',rfl,Q,_,hb⟩
  have:=isPc_uni g.st.nd (fun i j hi n=>by
   rw [sd_tz g.st f T r hi,sd_tz g.st f T r n];split <;> omega) P Q
  rw [this];exact ⟨pa,pc,rfl,hb⟩
end Go.Proofs.YtbjmnlefkbhbdaaGreatDoor
