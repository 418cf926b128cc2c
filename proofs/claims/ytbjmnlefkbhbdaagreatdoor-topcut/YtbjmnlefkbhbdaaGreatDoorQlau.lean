/- A part of it. -/
import Derived.Test.YtbjmnlefkbhbdaaGreatDoorQlar
set_option maxRecDepth 100000
set_option maxHeartbeats 40000000
namespace Go.Proofs.YtbjmnlefkbhbdaaGreatDoor
open Go.RowKit Go.ChangeMaps
variable {base n:Nat} {w:World} {M:Nat→M6}
def sdN (v c:Int) (pl:List T3) (i:Nat):Int:=sideN v c (pl.getD i (0,0,0)).1 (pl.getD i (0,0,0)).2.1 (pl.getD i (0,0,0)).2.2
def sdV (v c:Int) (pl:List T3) (n:Nat):List Value:=(List.range n).map fun i=>I (sdN v c pl i)
theorem sdV_succ (v c:Int) (pl:List T3) (n:Nat):sdV v c pl (n+1)=sdV v c pl n ++ [I (sdN v c pl n)]:=by
 unfold sdV;rw [List.range_succ,List.map_append];rfl
theorem Xi (w:World) (u:Value) (T:TypeId):∀ j z,[u][j]?=some z→(w.alloc (.cells #[u] T)).cell? ((⟨w.heap.size,0,none⟩:Addr).add j)=some z:=by
 intro j z a;match j,a with
 | 0,a=>simp at a;subst a;simp [Addr.add,go_sem]
theorem own_zrow {u:Value} {v c:Int} {pl:List T3} (h:w.ownsRow base 3 1 u n (sdV v c pl n)) (h0:0<n):∃ g q,u=.slice (some ⟨g,0,none⟩) n q∧ZRow w g n (sdN v c pl)∧base≤g:=by
 rcases h.2 with ⟨_,e⟩ | ⟨g,q,a,rfl,hb,_⟩
 ·omega
 ·refine ⟨g,q,rfl,fun i hi=>⟨?_,h.frozenAt i⟩,hb⟩;(try simp only [At,I]);rw [h.cellAt i γ]
  simp [sdV,hi]
theorem sidesOf_in (v c:Int) (pa:Option Addr) (pc:Nat) (pl:List T3) (w:World) (W:TRow w pa pl) (h0:0<pl.length) (J:pl.length≤300) (hl:lineB v c=true) (X:∀ t∈pl,triB t.1 t.2.1 t.2.2=true) (hs:Steps w) :
  Cl 16 #[.agg #[I v,I c],.slice pa pl.length pc] w fun e w'=>∃ g q,e=.returned (.tuple #[.slice (Az g) pl.length q,I 0])∧ZRow w' g pl.length (sdN v c pl)∧w.heap.size≤g∧Bl w w':=by
 have L:=H4 W hl X hs;obtain ⟨i3,H,m,o,p⟩:=info_parts inf3;have l:=H4 H m o p;obtain ⟨n,N⟩:∃ n,n=pl.length:=⟨_,rfl⟩;have HN:=Hd N;rw [← N] at h0 J ⊢;clear W hl X hs H m o p N;go_enter Tryz.func16,Tryz.ntmps16;go_upto_region 1 with fail
 refine Qj (fun b hW0=>?_);have K:Bl w b:=Θ;have x0:At b w.heap.size 0 (I v):=η;have x1:At b w.heap.size 1 (I c):=η;have R:=Hd K;clear hW0 K;go_wp2_with (at_make;refine wpList_make_own _ rfl (.const (I 0)) (.tmp 12) 23 rfl b.heap.size 3 i3 (I 0) 1 Tryz.underlying23 l.out.1 l.out.2.1 l.out.2.2.1 .i64 .i64 _ n rfl rfl rfl (by rw [l.out.2.2.2];omega) Γ ν ?mk)
 case mk =>
  intro w1 a G;have F:Bl b w1:=(Below.refl _ _).grown G (Nr _) (fun k h=>by cases h);have r:Hid (Bl b w1∧w1.ownsRow b.heap.size 3 1 (.slice (Az b.heap.size) 0 n) 0 []):=⟨F,by simpa using a⟩;clear a G F;go_wp2;go_loopg [6,16] n (fun gk s6 O wx=>∃ (i:Nat) (u:Value),i≤n∧gk=n - i∧u=s6∧O=I (i:Int)∧wx.ownsRow b.heap.size 3 1 u i (sdV v c pl i)∧Bl b wx)
  case atStart=>exact ⟨0,_,γ,rfl,rfl,rfl,by simpa [sdV] using r.out.2,r.out.1⟩
  case round =>
   clear r;obtain ⟨i,u,hi,rfl,rfl,rfl,U,D⟩:=hrel;have C:=H3 U D (Qb R.out D);have y0:=Qa D x0;have y1:=Qa D x1;have zb:=Bt y0;have zw:b.heap.size≤wr.heap.size:=D.size;clear U D;by_cases h1:i<n
   ·have i1:(i:Int)<(n:Int):=γ;have i0:(0:Int)≤(i:Int):=γ;have A:i<pl.length:=by rw [← HN.out];exact h1
    obtain ⟨gp,ep,t0,Z,t2⟩:=(L.out.1.kept C.out.2.2) i A;subst ep;obtain ⟨x,y,k,j⟩:∃ x y k,pl[i]=(x,y,k):=⟨_,_,_,rfl⟩
    have Q:Hid (triB x y k=true∧sdN v c pl i=sideN v c x y k):=by
     have h1:=L.out.2.2.1 pl[i] (Lm A);rw [j] at h1;refine ⟨h1, ?_⟩;unfold sdN;rw [List.getD_eq_getElem?_getD,List.getElem?_eq_getElem A,j];rfl
    rw [j] at t0 Z t2;dsimp only at t0 Z t2;have zp:=Bt t0;obtain ⟨sd,B⟩:∃ s,s=sideN v c x y k:=⟨_,rfl⟩
    have M:Hid (∀ V:World,Bl w V→Rt 9 #[.agg #[I v,I c],.agg #[I x,I y,I k]] V (.tuple #[I sd,I 0])):=fun V hV=>by
     rw [B];exact Vb v c x y k V Q.out.1 L.out.2.1 (L.out.2.2.2.kept hV)
    have HE:Hid (sdV v c pl (i+1)=sdV v c pl i ++ [I sd]):=by
     have:sdV v c pl (i+1)=sdV v c pl i ++ [I sd]:=by rw [sdV_succ,Q.out.2,B]
     exact this
    clear j B
    go_wp2_with (first
     | (go_at_call 9;refine (M.out _ (by with_reducible exact Qc C.out.2.2)).mono ?_;rintro e P ⟨rfl,z⟩;have d:=H2 (Qh (Qh C.out.1 β1) z) (Qb (Qc C.out.2.1) z);have z2:b.heap.size≤P.heap.size:=d.out.2.size;clear z)
     | (at_builtin;refine wpList_append_own _ rfl (.tmp 29) (.tmp 31) 23 rfl b.heap.size 3 i3 (I 0) 1 8 Tryz.underlying23 l.out.1 l.out.2.1 l.out.2.2.1 l.out.2.2.2 rfl τ u i (sdV v c pl i) rfl (Qh d.out.1 β1) ⟨P.heap.size,0,none⟩ 1 1 [I sd] rfl rfl (Xi P _ _) (by intro q hq;simp at hq;subst hq;rfl) Γ γ ψ ?grow))
    case grow =>
     intro u' w3 a f _
     have E:Hid (w3.ownsRow b.heap.size 3 1 u' (i+1) (sdV v c pl (i+1))∧Bl b w3):=by
      refine ⟨?_, ?_⟩
      ·rw [HE.out];exact a
      ·exact (Qc d.out.2).grown f (Qc d.out.2).size (fun k hk=>Qn d.out.1 k hk)
     clear a f;go_wp2;go_roundg (n - (i+1))
     case measure=>omega
     case rel=>exact ⟨i+1,_,γ,rfl,rfl,σ,E.out.1,E.out.2⟩
   ·have i1:¬ (i:Int)<(n:Int):=γ;obtain rfl:i=n:=γ;obtain ⟨g,q,hu,Y,hg⟩:=own_zrow C.out.1 h0;subst hu;have T:=H2 Y hg;clear Y hg;go_wp2;exact bodyPost_ret (v:=.tuple #[.slice (Az g) i q,I 0]) (by simp [results,Tryz.results16,go_sem]) rfl ⟨g,⟨q,rfl⟩,T.out.1,Nt R.out.size T.out.2,C.out.2.2⟩
theorem pieIn_any (w:World) (d j f N lo hi i:Nat) (h:Nat→Int) (m:Hg w f N h) (g:At w d 0 (I (lo:Int))) (o:At w d 1 (I (hi:Int))) (k:At w j 0 (ABv f)) (h0:lo<N) (h1:hi<N) (h2:i<N) (l:N≤300) :
  Rt 183 #[I (i:Int),.pointer (Az d),.pointer (Az j)] w (.bool (arB h (lo,hi) i)):=by
 have c:=Hd (fun (V:World) hV=>Vt V f N lo hi i h (m.kept hV) h0 h1 h2 l);obtain ⟨b1,a⟩:∃ b,b=arB h (lo,hi) i:=⟨_,rfl⟩;rw [← a] at c ⊢;have p:=Bt k;have q:=Bt g;clear a m h0 h1 h2 l;unfold ABv at k c;go_enter Tryz.func183,Tryz.ntmps183;go_wp2_with (go_at_call 184;(with_reducible refine (c.out _ δ0).mono ?_);rintro e w1 ⟨rfl,hb⟩;have n:=Hd hb;clear hb)
 go_ret;exact ⟨rfl,n.out⟩
theorem pieCl_any (w:World) (r d k N lo hi m c:Nat) (a:Option Addr) (l:List Nat) (h:Nat→Int) (v:Hg w k N h) (z:At w r 0 (.slice a m c)) (hl:IRow w a l) (x:m=l.length) (j:m≤100000000) (s:At w d 0 (ABv k)) (h0:lo<N) (h1:hi<N) (h2:∀ i∈l,i<N) (u:N≤300) :
  Rt 182 #[.agg #[I (lo:Int),I (hi:Int)],.pointer (Az r),.pointer (Az d)] w (.bool (l.any (arB h (lo,hi)))):=by
 have q:Hid (∀ V:World,Below (w.alloc (.cells #[I (lo:Int),I (hi:Int)] 257)).heap.size (w.alloc (.cells #[I (lo:Int),I (hi:Int)] 257)) V→Rt 121 #[.slice a m c,.func (.func 183) #[] #[.pointer (Az w.heap.size),.pointer (Az d)]] V (.bool (l.any (arB h (lo,hi))))):=fun V o=>by
  have t:Bl w V:=Qb β1 o;refine Gg V a m c w.heap.size d l (arB h (lo,hi)) (hl.kept t) x j (fun U p n hp=>?_);have f:=Qb t n;exact pieIn_any U w.heap.size d k N lo hi p h (v.kept f) (Qa (Qb o n) ζ) (Qa (Qb o n) ζ) (Qa f s) h0 h1 (h2 p hp) u
 obtain ⟨b1,g⟩:∃ b,b=l.any (arB h (lo,hi)):=⟨_,rfl⟩;rw [← g] at q ⊢;have B:=Bt z;clear g v h0 h1 h2 u hl s x j;have A:=Qy;go_enter Tryz.func182,Tryz.ntmps182;go_wp2_with (go_at_call 121;(with_reducible refine (q.out _ (Qd _)).mono ?_);rintro e w1 ⟨rfl,hb⟩;have y:=Hd (Qb β1 hb);clear hb)
 go_ret;exact ⟨rfl,y.out⟩
def tgB (h:Nat→Int) (a b:Nat×Nat):Bool:=arB h a b.1 != arB h a b.2
theorem tanCl_any (w:World) (k s f N lo hi p q:Nat) (h:Nat→Int) (n:Hg w f N h) (c:At w k 0 (I (lo:Int))) (g:At w k 1 (I (hi:Int))) (j:At w s 0 (ABv f)) (h0:lo<N) (h1:hi<N) (h2:p<N) (h3:q<N) (l:N≤300) :
  Rt 185 #[.agg #[I (p:Int),I (q:Int)],.pointer (Az k),.pointer (Az s)] w (.bool (tgB h (lo,hi) (p,q))):=by
 obtain ⟨b1,d⟩:∃ b,b=arB h (lo,hi) p:=⟨_,rfl⟩;obtain ⟨b2,e⟩:∃ b,b=arB h (lo,hi) q:=⟨_,rfl⟩;have o:Hid (∀ V:World,Bl w V→Rt 184 #[.agg #[I (lo:Int),I (hi:Int)],I (p:Int),ABv f] V (.bool b1)):=fun V m=>by rw [d];exact Vt V f N lo hi p h (n.kept m) h0 h1 h2 l
 have r:Hid (∀ V:World,Bl w V→Rt 184 #[.agg #[I (lo:Int),I (hi:Int)],I (q:Int),ABv f] V (.bool b2)):=fun V m=>by rw [e];exact Vt V f N lo hi q h (n.kept m) h0 h1 h3 l
 have t:Hid (tgB h (lo,hi) (p,q)=(b1 != b2)):=by rw [d,e];rfl
 clear d e h0 h1 h2 h3 l n;unfold ABv at j o r;go_enter Tryz.func185,Tryz.ntmps185;go_upto_region 1 with fail
 refine Qj (fun i hW0=>?_);have a:Hid (Bl w i):=Θ;have x:At i w.heap.size 0 (I (p:Int)):=η;have y:At i w.heap.size 1 (I (q:Int)):=η;have z0:=Bt x;clear hW0;replace c:=Qa a.out c;replace g:=Qa a.out g;replace j:=Qa a.out j;have z1:=Bt c;have z2:=Bt j;obtain ⟨u,v⟩:=kcn i;refine wk ?_;repeat (go_big_quiet_step ((first | (go_at_call 184;(with_reducible exact Qm (o.out _ (Qb a.out (Kin.h _))))) | (go_at_call 184;(with_reducible exact Qm (r.out _ (Qb a.out (Kin.h _))))) | fail)))
 refine kq1 (fun z hq=>?_);clear u v;go_wp2;go_ret;exact ⟨Qs (by rw [t.out];cases b1 <;> cases b2 <;> rfl),Qb a.out hq⟩
theorem Ve (w:World) (d N j c0 m c:Nat) (a0 a:Option Addr) (l:List (Nat×Nat)) (h:Nat→Int) (r:Hg w d N h) (hl:FRow w a l) (s:m=l.length) (g:m≤100000000) (hb:∀ p∈l,p.1<N∧p.2<N) (n:N≤300) :
  Rt 153 #[.agg #[.slice a0 j c0,.slice a m c],ABv d] w (.bool (l.any fun p=>decide (h p.2<h p.1))):=by
 have i:Hid (∀ V:World,Below ((w.alloc (.cells #[.slice a0 j c0,.slice a m c] 180)).alloc (.cells #[ABv d] 69)).heap.size ((w.alloc (.cells #[.slice a0 j c0,.slice a m c] 180)).alloc (.cells #[ABv d] 69)) V→Rt 181 #[.slice a m c,.func (.func 186) #[] #[.pointer (Az (w.heap.size+1))]] V (.bool (l.any fun p=>decide (h p.2<h p.1)))):=fun V q=>by
  have k:Bl w V:=Qb β2 q;refine Gf V a m c (w.heap.size+1) l _ (hl.kept k) s g (fun U p o hp=>?_);exact misCl_any U d (w.heap.size+1) N p.1 p.2 h (r.kept (Qb k o)) (Qa (Qb q o) ζ) (hb p hp).1 (hb p hp).2 n
 obtain ⟨b1,f⟩:∃ b,b=l.any fun p=>decide (h p.2<h p.1):=⟨_,rfl⟩;rw [← f] at i ⊢;clear f r hb n hl s g;have u:=Qy;unfold ABv at i ⊢;go_enter Tryz.func153,Tryz.ntmps153;go_wp2_with (go_at_call 181;(with_reducible refine (i.out _ (Qd _)).mono ?_);rintro e w1 ⟨rfl,hb⟩;have t:=Hd (Qb β2 hb);clear hb)
 go_ret;exact ⟨rfl,t.out⟩
theorem Kw (w:World) (g N f c0 m c:Nat) (a0 a:Option Addr) (l0:List Nat) (l:List (Nat×Nat)) (h:Nat→Int) (x:Hg w g N h) (n:IRow w a0 l0) (o:f=l0.length) (d:f≤100000000) (hl:FRow w a l) (y:m=l.length) (q:m≤100000000) (j:∀ i∈l0,i<N) (hb:∀ p∈l,p.1<N∧p.2<N) (v:N≤300) :
  Rt 151 #[.agg #[.slice a0 f c0,.slice a m c],ABv g] w (.bool (l.any fun p=>l0.any (arB h p))):=by
 have s:Hid (∀ V:World,Below ((w.alloc (.cells #[.slice a0 f c0,.slice a m c] 180)).alloc (.cells #[ABv g] 69)).heap.size ((w.alloc (.cells #[.slice a0 f c0,.slice a m c] 180)).alloc (.cells #[ABv g] 69)) V→Rt 181 #[.slice a m c,.func (.func 182) #[] #[.pointer (Az w.heap.size),.pointer (Az (w.heap.size+1))]] V (.bool (l.any fun p=>l0.any (arB h p)))):=fun V u=>by
  have t:Bl w V:=Qb β2 u;refine Ge V a m c w.heap.size (w.heap.size+1) l _ (hl.kept t) y q (fun U p r hp=>?_);exact pieCl_any U w.heap.size (w.heap.size+1) g N p.1 p.2 f c0 a0 l0 h (x.kept (Qb t r)) (Qa (Qb u r) ζ) (n.kept (Qb t r)) o d (Qa (Qb u r) ζ) (hb p hp).1 (hb p hp).2 j v
 obtain ⟨b1,k⟩:∃ b,b=l.any fun p=>l0.any (arB h p):=⟨_,rfl⟩;rw [← k] at s ⊢;clear k x hb j v hl n y o q d;have A:=Qy;unfold ABv at s ⊢;go_enter Tryz.func151,Tryz.ntmps151;go_wp2_with (go_at_call 181;(with_reducible refine (s.out _ (Qd _)).mono ?_);rintro e w1 ⟨rfl,hb⟩;have z:=Hd (Qb β2 hb);clear hb)
 go_ret;exact ⟨rfl,z.out⟩
def tnP (h:Nat→Int) (l:List (Nat×Nat)) (n:Nat):Bool:=(l.take n).any (tgB h (l.getD n (0,0)))
def tnB (h:Nat→Int) (l:List (Nat×Nat)):Bool:=(List.range l.length).any (tnP h l)
theorem Zi {f:Nat→Bool} (h:∀ j,j<n→f j=false):(List.range n).any f=false:=by
 rw [List.any_eq_false];intro j a;rw [h j (List.mem_range.1 a)];simp
theorem Xf {f:Nat→Bool} {i:Nat} (hi:i<n) (h:f i=true):(List.range n).any f=true:=List.any_eq_true.2 ⟨i,List.mem_range.2 hi,h⟩
theorem Kr (w:World) (o N A c0 m c:Nat) (a0 a:Option Addr) (l:List (Nat×Nat)) (h:Nat→Int) (H:Hg w o N h) (hl:FRow w a l) (J:m=l.length) (P:m≤100000000) (Q:m≤c) (hb:∀ p∈l,p.1<N∧p.2<N) (G:N≤300) :
  Rt 152 #[.agg #[.slice a0 A c0,.slice a m c],ABv o] w (.bool (tnB h l)):=by
 have n:=H5 hl J H hb G;clear hl J H hb G;obtain ⟨R,C⟩:∃ R,R=tnB h l:=⟨_,rfl⟩;rw [← C];have F:=Hd C;clear C;have T:=Qy;obtain ⟨u,hW1⟩:∃ W,W=((w.alloc (.cells #[.slice a0 A c0,.slice a m c] 180)).alloc (.cells #[ABv o] 69)):=⟨_,rfl⟩;have t:=Hd hW1;clear hW1;have K:((w.alloc (.cells #[.slice a0 A c0,.slice a m c] 180)).alloc (.cells #[ABv o] 69)).cell? ⟨w.heap.size,1,none⟩=some (.slice a m c):=ζ;have x1:((w.alloc (.cells #[.slice a0 A c0,.slice a m c] 180)).alloc (.cells #[ABv o] 69)).cell? ⟨w.heap.size+1,0,none⟩=some (ABv o):=ζ
 have HX:Hid (At u w.heap.size 1 (.slice a m c)∧At u (w.heap.size+1) 0 (ABv o)∧Bl w u∧u.heap.size=w.heap.size+1+1):=by
  rw [t.out];exact ⟨K,x1,Qc β1,ν⟩
 clear K x1;go_enter Tryz.func152,Tryz.ntmps152;go_wp2;go_loopg [10] m (fun M E Y=>∃ i:Nat,i≤m∧M=m - i∧E=I (i:Int)∧Hid (∀ j,j<i→tnP h l j=false)∧Bl u Y)
 case atStart=>exact ⟨0,γ,rfl,rfl,fun j h=>by omega,by rw [t.out];exact Qd _⟩
 case round =>
  obtain ⟨i,hi,rfl,rfl,x,s⟩:=hrel;have q:=H2 s (Qb HX.out.2.2.1 s);clear s;by_cases h1:i<m
  ·have X:(i:Int)<(m:Int):=γ;have i0:(0:Int)≤(i:Int):=γ;have i2:(i:Int)≤(c:Int):=γ;have f:i<l.length:=n.out.2.1 ▸ h1;obtain ⟨g,rfl,d0,d1⟩:=(n.out.1.kept q.out.2) i f;obtain ⟨lo,d,hp⟩:∃ lo hi,l[i]=(lo,hi):=⟨_,_,rfl⟩;rw [hp] at d0 d1;dsimp only at d0 d1;have e1:=Qa q.out.1 HX.out.1;have e2:=Qa q.out.1 HX.out.2.1;have z1:=Bt e1;have z2:=Bt e2;have k:=n.out.2.2.2.1 _ (Lm f);rw [hp] at k;have L:Hid (l[i]=(lo,d)∧tnP h l i=(l.take i).any (tgB h (lo,d))):=⟨hp,by unfold tnP;rw [Qq l i f,hp]⟩;clear hp
   have y:Hid (∀ V:World,Below (wr.alloc (.cells #[I (lo:Int),I (d:Int)] 257)).heap.size (wr.alloc (.cells #[I (lo:Int),I (d:Int)] 257)) V→Rt 181 #[.slice (Az g) i c,.func (.func 185) #[] #[.pointer (Az wr.heap.size),.pointer (Az (w.heap.size+1))]] V (.bool (tnP h l i))):=fun V D=>by
    have s:Bl wr V:=Qb β1 D;have v:=Qb q.out.2 s;rw [L.out.2];refine Gd V (Az g) i c wr.heap.size (w.heap.size+1) (l.take i) _ ((n.out.1.kept v).take i) (by rw [List.length_take];omega) γ (fun U p z hp=>?_);have hq:=n.out.2.2.2.1 p (List.mem_of_mem_take hp);exact tanCl_any U wr.heap.size (w.heap.size+1) o N lo d p.1 p.2 h (n.out.2.2.1.kept (Qb v z)) (Qa (Qb D z) ζ) (Qa (Qb D z) ζ) (Qa (Qb s z) e2) k.1 k.2 hq.1 hq.2 n.out.2.2.2.2
   clear k
   cases hb2:tnP h l i
   ·rw [hb2] at y;go_wp2_with (go_at_call 181;(with_reducible refine (y.out _ (Qd _)).mono ?_);rintro e w1 ⟨rfl,b⟩;have r:=Hd (Qb q.out.1 (Qb β1 b));clear b)
    go_roundg (m - (i+1))
    case measure=>omega
    case rel =>
     refine ⟨i+1,γ,rfl,σ,fun j O=>?_,r.out⟩;by_cases e:j=i
     ·subst e;exact hb2
     ·exact x.out j γ
   ·rw [hb2] at y;have B:Hid (R=true):=by rw [F.out];exact Xf f hb2
    go_wp2_with (go_at_call 181;(with_reducible refine (y.out _ (Qd _)).mono ?_);rintro e w1 ⟨rfl,b⟩;have r:=Hd (Qb q.out.1 (Qb β1 b));clear b)
    try rw [Exit.noGoto_ret]
    go_ret;exact ⟨Qs B.out.symm,Qb HX.out.2.2.1 r.out⟩
  ·have X:¬ (i:Int)<(m:Int):=γ;have B:Hid (R=false):=by rw [F.out];exact Zi (fun j Z=>x.out j (by have:=n.out.2.1;omega))
   go_wp2;go_ret;exact ⟨Qs B.out.symm,q.out.2⟩
def twQ (h:Nat→Int) (l0 l2:List Nat) (i j:Nat):Bool:=decide (h (l0.getD j 0)<h (l0.getD i 0)) != decide (h (l2.getD j 0)<h (l2.getD i 0))
def twP (h:Nat→Int) (l0 l2:List Nat) (i:Nat):Bool:=(List.range i).any (twQ h l0 l2 i)
def twB (h:Nat→Int) (l0 l2:List Nat):Bool:=(List.range l0.length).any (twP h l0 l2)
theorem twisted_any (w:World) (s N m c0 c2 m1 c1 m3 c3:Nat) (a0 a1 X a3:Option Addr) (l0 l2:List Nat) (h:Nat→Int) (hh:Hg w s N h) (K:IRow w a0 l0) (L:IRow w X l2) (hm:m=l0.length) (M:m=l2.length) (ab:m≤100000000) (F:∀ i∈l0,i<N) (G:∀ i∈l2,i<N) (hN:N≤300) :
  Rt 149 #[.agg #[.slice a0 m c0,.slice a1 m1 c1,.slice X m c2,.slice a3 m3 c3],ABv s] w (.bool (twB h l0 l2)):=by
 have a:=H8 K L hm M hh F G hN;clear K L hm M hh F G hN;obtain ⟨R,Z⟩:∃ R,R=twB h l0 l2:=⟨_,rfl⟩;rw [← Z];have W:=Hd Z;clear Z;unfold ABv;go_enter Tryz.func149,Tryz.ntmps149;go_upto_region 1 with fail
 refine Qj (fun z hW0=>?_);have t:Hid (Bl w z):=Θ;have p0:At z w.heap.size 0 (.slice a0 m c0):=η;have p2:At z w.heap.size 2 (.slice X m c2):=η;have z0:=Bt p0;clear hW0;obtain ⟨kc,kn⟩:=kcn z;refine wk ?_;repeat (go_big_quiet_step (fail))
 refine wpQuiet_nil ?_;intro wq r;obtain ⟨Q,b⟩:=r;have hq:Bl z wq:=b ▸ Q.h;have u:=Hd (Qb t.out hq);clear b Q kc kn hq t p0 p2 z0;go_wp2;go_loopg [17] m (fun Y a6 wx=>∃ i:Nat,i≤m∧Y=m - i∧a6=I (i:Int)∧Hid (∀ j,j<i→twP h l0 l2 j=false)∧Bl w wx)
 case atStart=>exact ⟨0,γ,rfl,rfl,fun j h=>by omega,u.out⟩
 case round =>
  clear u;obtain ⟨i,hi,rfl,rfl,O,E⟩:=hrel;have f:=Hd E;have x:=Hd O.out;clear E O;by_cases h1:i<m
  ·have i1:(i:Int)<(m:Int):=γ;have i0:(0:Int)≤(i:Int):=γ;go_wp2;go_loopg [21] i (fun Y a7 wx=>∃ j:Nat,j≤i∧Y=i - j∧a7=I (j:Int)∧Hid (∀ k,k<j→twQ h l0 l2 i k=false)∧Bl w wx)
   case atStart=>exact ⟨0,γ,rfl,rfl,fun j h=>by omega,f.out⟩
   case round =>
    clear f;obtain ⟨j,hj,rfl,rfl,P,E⟩:=hrel;have f:=Hd E;have n:=Hd P.out;clear E P;by_cases h2:j<i
    ·have j1:(j:Int)<(i:Int):=γ;have j0:(0:Int)≤(j:Int):=γ;have j2:(j:Int)<(m:Int):=γ;obtain ⟨g0,rfl,u0⟩:=(a.out.1.kept f.out) i (by have:=a.out.2.2.1;omega);obtain ⟨a8,H,u1⟩:=(a.out.1.kept f.out) j (by have:=a.out.2.2.1;omega);obtain ⟨g2,rfl,v0⟩:=(a.out.2.1.kept f.out) i (by have:=a.out.2.2.2.1;omega);obtain ⟨aa,J,v1⟩:=(a.out.2.1.kept f.out) j (by have:=a.out.2.2.2.1;omega);simp only [Option.some.injEq,Addr.mk.injEq,and_true] at H J;subst H J;have b0:=a.out.2.2.2.2.2.1 _ (Lm (show i<l0.length by have:=a.out.2.2.1;omega));have b1:=a.out.2.2.2.2.2.1 _ (Lm (show j<l0.length by have:=a.out.2.2.1;omega));have b2:=a.out.2.2.2.2.2.2.1 _ (Lm (show i<l2.length by have:=a.out.2.2.2.1;omega));have b3:=a.out.2.2.2.2.2.2.1 _ (Lm (show j<l2.length by have:=a.out.2.2.2.1;omega))
     have d:twQ h l0 l2 i j=(decide (h (l0[j]'(by have:=a.out.2.2.1;omega))<h (l0[i]'(by have:=a.out.2.2.1;omega))) != decide (h (l2[j]'(by have:=a.out.2.2.2.1;omega))<h (l2[i]'(by have:=a.out.2.2.2.1;omega)))):=by
      unfold twQ;rw [Qq l0 i (by have:=a.out.2.2.1;omega),Qq l0 j (by have:=a.out.2.2.1;omega),Qq l2 i (by have:=a.out.2.2.2.1;omega),Qq l2 j (by have:=a.out.2.2.2.1;omega)]
     generalize l0[i]'(by have:=a.out.2.2.1;omega)=A at u0 b0 d;generalize l0[j]'(by have:=a.out.2.2.1;omega)=B at u1 b1 d;generalize l2[i]'(by have:=a.out.2.2.2.1;omega)=C at v0 b2 d;generalize l2[j]'(by have:=a.out.2.2.2.1;omega)=D at v1 b3 d;obtain ⟨q1,o⟩:∃ q,q=decide (h B<h A):=⟨_,rfl⟩;obtain ⟨T,p⟩:∃ q,q=decide (h D<h C):=⟨_,rfl⟩;have C1:Hid (∀ V:World,Bl wr V→Rt 87 #[I (A:Int),I (B:Int),.pointer (Az s)] V (.bool q1)):=fun V hV=>by rw [o];exact Xs V s N A B h (a.out.2.2.2.2.1.kept (Qb f.out hV)) b0 b1 a.out.2.2.2.2.2.2.2
     have C2:Hid (∀ V:World,Bl wr V→Rt 87 #[I (C:Int),I (D:Int),.pointer (Az s)] V (.bool T)):=fun V hV=>by rw [p];exact Xs V s N C D h (a.out.2.2.2.2.1.kept (Qb f.out hV)) b2 b3 a.out.2.2.2.2.2.2.2
     have l:twQ h l0 l2 i j=(q1 != T):=by rw [d,o,p]
     have c:=Hd l;clear l o p d b0 b1 b2 b3;have y0:=Bt u0;have y2:=Bt v0;have v:Hid (i<l0.length):=by have:=a.out.2.2.1;exact (show i<l0.length by omega)
     go_upto_region 8 with fail
     obtain ⟨kc,kn⟩:=kcn wr;refine wk ?_;repeat (go_big_quiet_step ((first | (go_at_call 87;(with_reducible exact Qm (C1.out _ (Kin.h _)))) | (go_at_call 87;(with_reducible exact Qm (C2.out _ (Kin.h _)))) | fail)))
     refine wpQuiet_nil ?_;intro wz r;obtain ⟨Q,b⟩:=r;have hq:Bl wr wz:=b ▸ Q.h;have g:=Hd (Qb f.out hq);clear b Q kc kn hq C1 C2 u0 u1 v0 v1
     cases q1
     ·cases T
      ·have U:=Hd c.out;go_wp2;go_roundg (i - (j+1))
       case measure=>omega
       case rel =>
        refine ⟨j+1,γ,rfl,σ,fun k hk=>?_,g.out⟩;by_cases e:k=j
        ·subst e;exact U.out
        ·exact n.out k γ
      ·have y:Hid (R=true):=by
        have:R=true:=W.out.trans (Xf v.out (Xf h2 c.out));exact this
       go_wp2;try rw [Exit.noGoto_ret]
       try rw [Exit.noGoto_ret]
       go_ret;exact ⟨Qs y.out.symm,g.out⟩
     ·cases T
      ·have y:Hid (R=true):=by
        have:R=true:=W.out.trans (Xf v.out (Xf h2 c.out));exact this
       go_wp2;try rw [Exit.noGoto_ret]
       try rw [Exit.noGoto_ret]
       go_ret;exact ⟨Qs y.out.symm,g.out⟩
      ·have U:=Hd c.out;go_wp2;go_roundg (i - (j+1))
       case measure=>omega
       case rel =>
        refine ⟨j+1,γ,rfl,σ,fun k hk=>?_,g.out⟩;by_cases e:k=j
        ·subst e;exact U.out
        ·exact n.out k γ
    ·have j1:¬ (j:Int)<(i:Int):=γ;go_wp2;go_roundg (m - (i+1))
     case measure=>omega
     case rel =>
      refine ⟨i+1,γ,rfl,σ,fun k hk=>?_,f.out⟩;by_cases e:k=i
      ·subst e;exact Zi (fun q hq=>n.out q γ)
      ·exact x.out k γ
  ·have i1:¬ (i:Int)<(m:Int):=γ;have y:Hid (R=false):=by rw [W.out];exact Zi (fun j hj=>x.out j (by have:=a.out.2.2.1;omega))
   go_wp2;go_ret;exact ⟨Qs y.out.symm,f.out⟩
def MBx (w:World) (b:Nat) (a0 a1 a2 a3:Option Addr) (m0 c0 m1 c1 m2 c2 m3 c3:Nat):Prop:=At w b 0 (.slice a0 m0 c0)∧At w b 1 (.slice a1 m1 c1)∧At w b 2 (.slice a2 m2 c2)∧At w b 3 (.slice a3 m3 c3)
theorem either104_any (w:World) (i h d:Nat) (a0 a1 g a3:Option Addr) (k c0 l c1 m c2 n c3:Nat) (r0 r1:Bool) (j:At w i 0 (.func (.func 151) #[] #[])) (p:MBx w h a0 a1 g a3 k c0 l c1 m c2 n c3)
  (b:Hid (∀ V:World,Bl w V→Rt 151 #[.agg #[.slice a0 k c0,.slice a1 l c1],ABv d] V (.bool r0)))
  (f:Hid (∀ V:World,Bl w V→Rt 151 #[.agg #[.slice g m c2,.slice a3 n c3],ABv d] V (.bool r1))) :
  Rt 180 #[ABv d,.pointer (Az i),.pointer (Az h)] w (.bool (r0 || r1)):=by
 obtain ⟨o,x1,x2,x3⟩:=p;have zW:=Bt j;have t:=Bt o;unfold ABv at b f ⊢
 cases r0
 ·go_enter Tryz.func180,Tryz.ntmps180;go_wp2_with (first | (go_at_call 151;(with_reducible refine (b.out _ (Qd _)).mono ?_);rintro e w1 ⟨rfl,hb⟩;have r:=Qa hb x2;have y1:=Qa hb x3;have s:=Qa hb j;have a:=Hd hb;clear hb o x1) | (go_at_call 151;(with_reducible refine (f.out _ a.out).mono ?_);rintro e q ⟨rfl,hb⟩;have c:=Hd (Qb a.out hb);clear hb) | fail)
  go_ret;exact ⟨Qs ν,c.out⟩
 ·go_enter Tryz.func180,Tryz.ntmps180;go_wp2_with (first | (go_at_call 151;(with_reducible refine (b.out _ (Qd _)).mono ?_);rintro e w1 ⟨rfl,hb⟩;have a:=Hd hb;clear hb) | fail)
  go_ret;exact ⟨Qs ν,a.out⟩
theorem Gc (w:World) (a0 a1 a a3:Option Addr) (b c0 c c1 d c2 f c3:Nat) :
  Cl 150 #[.agg #[.slice a0 b c0,.slice a1 c c1,.slice a d c2,.slice a3 f c3],.func (.func 151) #[] #[]] w fun e w'=>e=.returned (.func (.func 180) #[] #[.pointer (Az (w.heap.size+1)),.pointer (Az w.heap.size)])∧w'=(w.alloc (.cells #[.slice a0 b c0,.slice a1 c c1,.slice a d c2,.slice a3 f c3] 182)).alloc (.cells #[.func (.func 151) #[] #[]] 232):=by
 have g:=Qy;go_enter Tryz.func150,Tryz.ntmps150;go_wp2;go_ret;exact ⟨rfl,rfl⟩
theorem either105_any (w:World) (i h d:Nat) (a0 a1 g a3:Option Addr) (k c0 l c1 m c2 n c3:Nat) (r0 r1:Bool) (j:At w i 0 (.func (.func 152) #[] #[])) (p:MBx w h a0 a1 g a3 k c0 l c1 m c2 n c3)
  (b:Hid (∀ V:World,Bl w V→Rt 152 #[.agg #[.slice a0 k c0,.slice a1 l c1],ABv d] V (.bool r0)))
  (f:Hid (∀ V:World,Bl w V→Rt 152 #[.agg #[.slice g m c2,.slice a3 n c3],ABv d] V (.bool r1))) :
  Rt 180 #[ABv d,.pointer (Az i),.pointer (Az h)] w (.bool (r0 || r1)):=by
 obtain ⟨o,x1,x2,x3⟩:=p;have zW:=Bt j;have t:=Bt o;unfold ABv at b f ⊢
 cases r0
 ·go_enter Tryz.func180,Tryz.ntmps180;go_wp2_with (first | (go_at_call 152;(with_reducible refine (b.out _ (Qd _)).mono ?_);rintro e w1 ⟨rfl,hb⟩;have r:=Qa hb x2;have y1:=Qa hb x3;have s:=Qa hb j;have a:=Hd hb;clear hb o x1) | (go_at_call 152;(with_reducible refine (f.out _ a.out).mono ?_);rintro e q ⟨rfl,hb⟩;have c:=Hd (Qb a.out hb);clear hb) | fail)
  go_ret;exact ⟨Qs ν,c.out⟩
 ·go_enter Tryz.func180,Tryz.ntmps180;go_wp2_with (first | (go_at_call 152;(with_reducible refine (b.out _ (Qd _)).mono ?_);rintro e w1 ⟨rfl,hb⟩;have a:=Hd hb;clear hb) | fail)
  go_ret;exact ⟨Qs ν,a.out⟩
theorem Gb (w:World) (a0 a1 a a3:Option Addr) (b c0 c c1 d c2 f c3:Nat) :
  Cl 150 #[.agg #[.slice a0 b c0,.slice a1 c c1,.slice a d c2,.slice a3 f c3],.func (.func 152) #[] #[]] w fun e w'=>e=.returned (.func (.func 180) #[] #[.pointer (Az (w.heap.size+1)),.pointer (Az w.heap.size)])∧w'=(w.alloc (.cells #[.slice a0 b c0,.slice a1 c c1,.slice a d c2,.slice a3 f c3] 182)).alloc (.cells #[.func (.func 152) #[] #[]] 232):=by
 have g:=Qy;go_enter Tryz.func150,Tryz.ntmps150;go_wp2;go_ret;exact ⟨rfl,rfl⟩
theorem either106_any (w:World) (i h d:Nat) (a0 a1 g a3:Option Addr) (k c0 l c1 m c2 n c3:Nat) (r0 r1:Bool) (j:At w i 0 (.func (.func 153) #[] #[])) (p:MBx w h a0 a1 g a3 k c0 l c1 m c2 n c3)
  (b:Hid (∀ V:World,Bl w V→Rt 153 #[.agg #[.slice a0 k c0,.slice a1 l c1],ABv d] V (.bool r0)))
  (f:Hid (∀ V:World,Bl w V→Rt 153 #[.agg #[.slice g m c2,.slice a3 n c3],ABv d] V (.bool r1))) :
  Rt 180 #[ABv d,.pointer (Az i),.pointer (Az h)] w (.bool (r0 || r1)):=by
 obtain ⟨o,x1,x2,x3⟩:=p;have zW:=Bt j;have t:=Bt o;unfold ABv at b f ⊢
 cases r0
 ·go_enter Tryz.func180,Tryz.ntmps180;go_wp2_with (first | (go_at_call 153;(with_reducible refine (b.out _ (Qd _)).mono ?_);rintro e w1 ⟨rfl,hb⟩;have r:=Qa hb x2;have y1:=Qa hb x3;have s:=Qa hb j;have a:=Hd hb;clear hb o x1) | (go_at_call 153;(with_reducible refine (f.out _ a.out).mono ?_);rintro e q ⟨rfl,hb⟩;have c:=Hd (Qb a.out hb);clear hb) | fail)
  go_ret;exact ⟨Qs ν,c.out⟩
 ·go_enter Tryz.func180,Tryz.ntmps180;go_wp2_with (first | (go_at_call 153;(with_reducible refine (b.out _ (Qd _)).mono ?_);rintro e w1 ⟨rfl,hb⟩;have a:=Hd hb;clear hb) | fail)
  go_ret;exact ⟨Qs ν,a.out⟩
theorem Ga (w:World) (a0 a1 a a3:Option Addr) (b c0 c c1 d c2 f c3:Nat) :
  Cl 150 #[.agg #[.slice a0 b c0,.slice a1 c c1,.slice a d c2,.slice a3 f c3],.func (.func 153) #[] #[]] w fun e w'=>e=.returned (.func (.func 180) #[] #[.pointer (Az (w.heap.size+1)),.pointer (Az w.heap.size)])∧w'=(w.alloc (.cells #[.slice a0 b c0,.slice a1 c c1,.slice a d c2,.slice a3 f c3] 182)).alloc (.cells #[.func (.func 153) #[] #[]] 232):=by
 have g:=Qy;go_enter Tryz.func150,Tryz.ntmps150;go_wp2;go_ret;exact ⟨rfl,rfl⟩
def clN (R:Nat→Bool):Nat→List Nat
 | 0=>[]
 | i+1=>clN R i ++ if R i then [i+1] else []
theorem Va (R:Nat→Bool):∀ i,(clN R i).length≤i
 | 0=>Nr _
 | i+1=>by
  have:=Va R i;unfold clN;rw [List.length_append];split <;> simp <;> omega
structure RB (w wx:World) (g b1 d1 b2 d2 b3 d3:Nat) (a0 a1 a2 a3:Option Addr) (m0 c0 m1 c1 m2 c2 m3 c3:Nat):Prop where
 k0:At wx g 0 (I 1)
 f0:At wx g 1 (.func (.func 149) #[.agg #[.slice a0 m0 c0,.slice a1 m1 c1,.slice a2 m2 c2,.slice a3 m3 c3]] #[])
 k1:At wx g 2 (I 2)
 f1:At wx g 3 (.func (.func 180) #[] #[.pointer (Az d1),.pointer (Az b1)])
 x1:MBx wx b1 a0 a1 a2 a3 m0 c0 m1 c1 m2 c2 m3 c3
 y1:At wx d1 0 (.func (.func 151) #[] #[])
 k2:At wx g 4 (I 3)
 f2:At wx g 5 (.func (.func 180) #[] #[.pointer (Az d2),.pointer (Az b2)])
 x2:MBx wx b2 a0 a1 a2 a3 m0 c0 m1 c1 m2 c2 m3 c3
 y2:At wx d2 0 (.func (.func 152) #[] #[])
 k3:At wx g 6 (I 4)
 f3:At wx g 7 (.func (.func 180) #[] #[.pointer (Az d3),.pointer (Az b3)])
 x3:MBx wx b3 a0 a1 a2 a3 m0 c0 m1 c1 m2 c2 m3 c3
 y3:At wx d3 0 (.func (.func 153) #[] #[])
 bl:Bl w wx
theorem own_leR {a e k:Nat} {v:Value} {d:List Value} (h:w.ownsRow base e k v n d) (hb:a≤base):w.ownsRow a e k v n d:=by
 obtain ⟨hl,h0 | ⟨g,b,c,f,h1,h2⟩⟩:=h
 ·exact ⟨hl,Or.inl h0⟩
 ·exact ⟨hl,Or.inr ⟨g,b,c,f,Nt hb h1,h2⟩⟩
theorem clashes_any (w:World) (A:Nat) (a0 a1 J a3:Option Addr) (K c0 L c1 M c2 N c3:Nat) (R:Nat→Bool) (Q W T X U Y:Bool) (e1:R 1=(Q || W)) (e2:R 2=(T || X)) (e3:R 3=(U || Y))
  (C0:Hid (∀ V:World,Bl w V→Rt 149 #[.agg #[.slice a0 K c0,.slice a1 L c1,.slice J M c2,.slice a3 N c3],ABv A] V (.bool (R 0))))
  (C:Hid (∀ V:World,Bl w V→Rt 151 #[.agg #[.slice a0 K c0,.slice a1 L c1],ABv A] V (.bool Q)))
  (F:Hid (∀ V:World,Bl w V→Rt 151 #[.agg #[.slice J M c2,.slice a3 N c3],ABv A] V (.bool W)))
  (D:Hid (∀ V:World,Bl w V→Rt 152 #[.agg #[.slice a0 K c0,.slice a1 L c1],ABv A] V (.bool T)))
  (G:Hid (∀ V:World,Bl w V→Rt 152 #[.agg #[.slice J M c2,.slice a3 N c3],ABv A] V (.bool X)))
  (E:Hid (∀ V:World,Bl w V→Rt 153 #[.agg #[.slice a0 K c0,.slice a1 L c1],ABv A] V (.bool U)))
  (H:Hid (∀ V:World,Bl w V→Rt 153 #[.agg #[.slice J M c2,.slice a3 N c3],ABv A] V (.bool Y)))
  :
  Cl 109 #[.agg #[.slice a0 K c0,.slice a1 L c1,.slice J M c2,.slice a3 N c3],ABv A] w fun e w'=>∃ a c,e=.returned (.slice a (clN R 4).length c)∧w'.ownsRow w.heap.size 3 1 (.slice a (clN R 4).length c) (clN R 4).length (nV (clN R 4))∧Bl w w':=by
 obtain ⟨i3,ad,a6,a7,a8⟩:=info_parts inf3;have y:=H4 ad a6 a7 a8;have x:=H3 e1 e2 e3;clear ad a6 a7 a8 e1 e2 e3;have ag:=Qy;unfold ABv at C0 C F D G E H ⊢;go_enter Tryz.func109,Tryz.ntmps109;go_upto_region 2 with fail
 go_cut [20,21,22] (fun ae af aa wx=>∃ g b1 d1 b2 d2 b3 d3:Nat,ae=.slice (Az g) 4 4∧af=I 4∧aa=I 0∧RB w wx g b1 d1 b2 d2 b3 d3 a0 a1 J a3 K c0 L c1 M c2 N c3)
 case first =>
  clear C0 C F D G E H x y
  go_region_held3 (fun w'=>At w' w.heap.size 0 (.slice a0 K c0)∧At w' w.heap.size 1 (.slice a1 L c1)∧At w' w.heap.size 2 (.slice J M c2)∧At w' w.heap.size 3 (.slice a3 N c3))
   (simp [go_sem,Ca])
   (first | (go_at_call 150;(with_reducible refine (Gc _ _ _ _ _ _ _ _ _ _ _ _ _).mono ?_);rintro e w2 ⟨rfl,rfl⟩) | (go_at_call 150;(with_reducible refine (Gb _ _ _ _ _ _ _ _ _ _ _ _ _).mono ?_);rintro e w2 ⟨rfl,rfl⟩) | (go_at_call 150;(with_reducible refine (Ga _ _ _ _ _ _ _ _ _ _ _ _ _).mono ?_);rintro e w2 ⟨rfl,rfl⟩) | fail)
  all_goals
   go_wp2;go_meet
   case rel =>
    first | (refine ⟨_,w.heap.size+1,w.heap.size+1+1,w.heap.size+1+1+1,w.heap.size+1+1+1+1,w.heap.size+1+1+1+1+1,w.heap.size+1+1+1+1+1+1,rfl,rfl,rfl, ?_⟩;(constructor <;> first | (simp [go_sem,Ca];done) | (refine ⟨?_, ?_, ?_, ?_⟩ <;> (simp [go_sem,Ca];done)) | ((with_reducible repeat' (first | exact Qd _ | refine Qc ?_ | refine Qe ?_ | refine Qk ?_ ?_)) <;> (first | omega | (simp;done) | (simp;omega))))) | (refine ⟨_,w.heap.size+1,w.heap.size+1+1,w.heap.size+1+1+1+1+1,w.heap.size+1+1+1+1+1+1,w.heap.size+1+1+1,w.heap.size+1+1+1+1,rfl,rfl,rfl, ?_⟩;(constructor <;> first | (simp [go_sem,Ca];done) | (refine ⟨?_, ?_, ?_, ?_⟩ <;> (simp [go_sem,Ca];done)) | ((with_reducible repeat' (first | exact Qd _ | refine Qc ?_ | refine Qe ?_ | refine Qk ?_ ?_)) <;> (first | omega | (simp;done) | (simp;omega))))) | (refine ⟨_,w.heap.size+1+1+1,w.heap.size+1+1+1+1,w.heap.size+1,w.heap.size+1+1,w.heap.size+1+1+1+1+1,w.heap.size+1+1+1+1+1+1,rfl,rfl,rfl, ?_⟩;(constructor <;> first | (simp [go_sem,Ca];done) | (refine ⟨?_, ?_, ?_, ?_⟩ <;> (simp [go_sem,Ca];done)) | ((with_reducible repeat' (first | exact Qd _ | refine Qc ?_ | refine Qe ?_ | refine Qk ?_ ?_)) <;> (first | omega | (simp;done) | (simp;omega))))) | (refine ⟨_,w.heap.size+1+1+1,w.heap.size+1+1+1+1,w.heap.size+1+1+1+1+1,w.heap.size+1+1+1+1+1+1,w.heap.size+1,w.heap.size+1+1,rfl,rfl,rfl, ?_⟩;(constructor <;> first | (simp [go_sem,Ca];done) | (refine ⟨?_, ?_, ?_, ?_⟩ <;> (simp [go_sem,Ca];done)) | ((with_reducible repeat' (first | exact Qd _ | refine Qc ?_ | refine Qe ?_ | refine Qk ?_ ?_)) <;> (first | omega | (simp;done) | (simp;omega))))) | (refine ⟨_,w.heap.size+1+1+1+1+1,w.heap.size+1+1+1+1+1+1,w.heap.size+1,w.heap.size+1+1,w.heap.size+1+1+1,w.heap.size+1+1+1+1,rfl,rfl,rfl, ?_⟩;(constructor <;> first | (simp [go_sem,Ca];done) | (refine ⟨?_, ?_, ?_, ?_⟩ <;> (simp [go_sem,Ca];done)) | ((with_reducible repeat' (first | exact Qd _ | refine Qc ?_ | refine Qe ?_ | refine Qk ?_ ?_)) <;> (first | omega | (simp;done) | (simp;omega))))) | (refine ⟨_,w.heap.size+1+1+1+1+1,w.heap.size+1+1+1+1+1+1,w.heap.size+1+1+1,w.heap.size+1+1+1+1,w.heap.size+1,w.heap.size+1+1,rfl,rfl,rfl, ?_⟩;(constructor <;> first | (simp [go_sem,Ca];done) | (refine ⟨?_, ?_, ?_, ?_⟩ <;> (simp [go_sem,Ca];done)) | ((with_reducible repeat' (first | exact Qd _ | refine Qc ?_ | refine Qe ?_ | refine Qk ?_ ?_)) <;> (first | omega | (simp;done) | (simp;omega)))))
 case rest =>
  obtain ⟨g,b1,d1,b2,d2,b3,d3,rfl,rfl,rfl,hW⟩:=hcut;have m:=Hd hW;have zg:=Bt hW.k0;have zw:w.heap.size≤wc.heap.size:=hW.bl.size;have E0:Hid (∀ V:World,Bl wc V→Rt 149 #[.agg #[.slice a0 K c0,.slice a1 L c1,.slice J M c2,.slice a3 N c3],.func (.func 87) #[] #[.pointer (Az A)]] V (.bool (R 0))):=fun V o=>C0.out V (Qb m.out.bl o)
  have E1:Hid (∀ V:World,Bl wc V→Rt 180 #[.func (.func 87) #[] #[.pointer (Az A)],.pointer (Az d1),.pointer (Az b1)] V (.bool (R 1))):=fun V o=>by
   have:=either104_any V d1 b1 A a0 a1 J a3 K c0 L c1 M c2 N c3 Q W (Qa o m.out.y1) ⟨Qa o m.out.x1.1,Qa o m.out.x1.2.1,Qa o m.out.x1.2.2.1,Qa o m.out.x1.2.2.2⟩ (fun O t=>C.out O (Qb (Qb m.out.bl o) t)) (fun O t=>F.out O (Qb (Qb m.out.bl o) t));rw [x.out.1];exact this
  have E2:Hid (∀ V:World,Bl wc V→Rt 180 #[.func (.func 87) #[] #[.pointer (Az A)],.pointer (Az d2),.pointer (Az b2)] V (.bool (R 2))):=fun V o=>by
   have:=either105_any V d2 b2 A a0 a1 J a3 K c0 L c1 M c2 N c3 T X (Qa o m.out.y2) ⟨Qa o m.out.x2.1,Qa o m.out.x2.2.1,Qa o m.out.x2.2.2.1,Qa o m.out.x2.2.2.2⟩ (fun O t=>D.out O (Qb (Qb m.out.bl o) t)) (fun O t=>G.out O (Qb (Qb m.out.bl o) t));rw [x.out.2.1];exact this
  have E3:Hid (∀ V:World,Bl wc V→Rt 180 #[.func (.func 87) #[] #[.pointer (Az A)],.pointer (Az d3),.pointer (Az b3)] V (.bool (R 3))):=fun V o=>by
   have:=either106_any V d3 b3 A a0 a1 J a3 K c0 L c1 M c2 N c3 U Y (Qa o m.out.y3) ⟨Qa o m.out.x3.1,Qa o m.out.x3.2.1,Qa o m.out.x3.2.2.1,Qa o m.out.x3.2.2.2⟩ (fun O t=>E.out O (Qb (Qb m.out.bl o) t)) (fun O t=>H.out O (Qb (Qb m.out.bl o) t));rw [x.out.2.2];exact this
  clear hW C0 C F D G E H x;go_wp2;go_loopg [5,22] 4 (fun gk s5 aa wx=>∃ (i:Nat) (u:Value),i≤4∧gk=4 - i∧u=s5∧aa=I (i:Int)∧wx.ownsRow wc.heap.size 3 1 u (clN R i).length (nV (clN R i))∧Bl wc wx)
  case atStart=>exact ⟨0,_,γ,rfl,rfl,rfl,World.ownsRow_nil _ _ _ _,Qd _⟩
  case round =>
   obtain ⟨i,u,hi,rfl,rfl,hs,hO,hB⟩:=hrel;have p:=H2 hO hB;have zr:wc.heap.size≤wr.heap.size:=hB.size;clear hO hB;rcases (show i=0∨i=1∨i=2∨i=3∨i=4 by omega) with rfl | rfl | rfl | rfl | rfl
   ·replace hs:_=I 0:=hs;subst hs;have k0:=Qa p.out.2 m.out.k0;have k1:=Qa p.out.2 m.out.f0;have ac:g<wr.heap.size:=γ;have x:Hid (clN R (0+1)=clN R 0 ++ if R 0 then [0+1] else []):=rfl;have P:=Va R 0;go_upto_region 5 with fail
    refine Qj (fun z j=>?_);have v0:At z wr.heap.size 0 (I 1):=by rw [j];simp [go_sem]
    have v1:At z wr.heap.size 1 (.func (.func 149) #[.agg #[.slice a0 K c0,.slice a1 L c1,.slice J M c2,.slice a3 N c3]] #[]):=by rw [j];simp [go_sem]
    have n:Bl wr z:=by
     rw [j];(with_reducible repeat' (first | exact Qd _ | refine Qc ?_ | refine Qe ?_ | refine Qk ?_ ?_)) <;> (first | omega | (simp;done) | (simp;omega))
    have f:=H2 (Qh p.out.1 n) (Qb p.out.2 n);have z5:=Bt v0;clear j n k0 k1 p;generalize hr:R 0=r at x E0
    cases r
    ·go_wp2_with (go_at_call 149;(with_reducible refine (E0.out _ f.out.2).mono ?_);rintro e B ⟨rfl,b⟩;have d:=H2 (Qh f.out.1 b) (Qb f.out.2 b);clear b)
     go_roundg (4 - (0+1))
     case measure=>omega
     case rel =>
      refine ⟨0+1,_,γ,rfl,rfl,rfl, ?_,d.out.2⟩;have e:clN R (0+1)=clN R 0:=by rw [x.out];simp
      rw [e];exact d.out.1
    ·go_wp2_with (first
      | (go_at_call 149;(with_reducible refine (E0.out _ f.out.2).mono ?_);rintro e B ⟨rfl,b⟩;have ab:=Qa b v0;have z6:=b.size;have d:=H2 (Qh f.out.1 b) (Qb f.out.2 b);clear b)
      | (at_builtin;refine wpList_append_own _ rfl (.tmp 30) (.tmp 33) 23 rfl wc.heap.size 3 i3 (I 0) 1 8 Tryz.underlying23 y.out.1 y.out.2.1 y.out.2.2.1 y.out.2.2.2 rfl τ u (clN R 0).length (nV (clN R 0)) rfl (Qh d.out.1 β1) ⟨B.heap.size,0,none⟩ 1 1 [I 1] rfl rfl (Xi B _ _) (by intro q hq;simp at hq;subst hq;rfl) Γ γ ψ ?grow))
     case grow =>
      intro u' Z l h _
      have s:Hid (Z.ownsRow wc.heap.size 3 1 u' (clN R (0+1)).length (nV (clN R (0+1)))∧Bl wc Z):=by
       refine ⟨?_, ?_⟩
       ·rw [x.out,if_pos trivial,Zl,List.length_append];exact l
       ·exact (Qc d.out.2).grown h (Qc d.out.2).size (fun k hk=>Qn d.out.1 k hk)
      clear l h;go_wp2;go_roundg (4 - (0+1))
      case measure=>omega
      case rel=>exact ⟨0+1,_,γ,rfl,rfl,rfl,s.out.1,s.out.2⟩
   ·replace hs:_=I 1:=hs;subst hs;have k0:=Qa p.out.2 m.out.k1;have k1:=Qa p.out.2 m.out.f1;have ac:g<wr.heap.size:=γ;have x:Hid (clN R (1+1)=clN R 1 ++ if R 1 then [1+1] else []):=rfl;have P:=Va R 1;go_upto_region 5 with fail
    refine Qj (fun z j=>?_);have v0:At z wr.heap.size 0 (I 2):=by rw [j];simp [go_sem]
    have v1:At z wr.heap.size 1 (.func (.func 180) #[] #[.pointer (Az d1),.pointer (Az b1)]):=by rw [j];simp [go_sem]
    have n:Bl wr z:=by
     rw [j];(with_reducible repeat' (first | exact Qd _ | refine Qc ?_ | refine Qe ?_ | refine Qk ?_ ?_)) <;> (first | omega | (simp;done) | (simp;omega))
    have f:=H2 (Qh p.out.1 n) (Qb p.out.2 n);have z5:=Bt v0;clear j n k0 k1 p;generalize hr:R 1=r at x E1
    cases r
    ·go_wp2_with (go_at_call 180;(with_reducible refine (E1.out _ f.out.2).mono ?_);rintro e B ⟨rfl,b⟩;have d:=H2 (Qh f.out.1 b) (Qb f.out.2 b);clear b)
     go_roundg (4 - (1+1))
     case measure=>omega
     case rel =>
      refine ⟨1+1,_,γ,rfl,rfl,rfl, ?_,d.out.2⟩;have e:clN R (1+1)=clN R 1:=by rw [x.out];simp
      rw [e];exact d.out.1
    ·go_wp2_with (first
      | (go_at_call 180;(with_reducible refine (E1.out _ f.out.2).mono ?_);rintro e B ⟨rfl,b⟩;have ab:=Qa b v0;have z6:=b.size;have d:=H2 (Qh f.out.1 b) (Qb f.out.2 b);clear b)
      | (at_builtin;refine wpList_append_own _ rfl (.tmp 30) (.tmp 33) 23 rfl wc.heap.size 3 i3 (I 0) 1 8 Tryz.underlying23 y.out.1 y.out.2.1 y.out.2.2.1 y.out.2.2.2 rfl τ u (clN R 1).length (nV (clN R 1)) rfl (Qh d.out.1 β1) ⟨B.heap.size,0,none⟩ 1 1 [I 2] rfl rfl (Xi B _ _) (by intro q hq;simp at hq;subst hq;rfl) Γ γ ψ ?grow))
     case grow =>
      intro u' Z l h _
      have s:Hid (Z.ownsRow wc.heap.size 3 1 u' (clN R (1+1)).length (nV (clN R (1+1)))∧Bl wc Z):=by
       refine ⟨?_, ?_⟩
       ·rw [x.out,if_pos trivial,Zl,List.length_append];exact l
       ·exact (Qc d.out.2).grown h (Qc d.out.2).size (fun k hk=>Qn d.out.1 k hk)
      clear l h;go_wp2;go_roundg (4 - (1+1))
      case measure=>omega
      case rel=>exact ⟨1+1,_,γ,rfl,rfl,rfl,s.out.1,s.out.2⟩
   ·replace hs:_=I 2:=hs;subst hs;have k0:=Qa p.out.2 m.out.k2;have k1:=Qa p.out.2 m.out.f2;have ac:g<wr.heap.size:=γ;have x:Hid (clN R (2+1)=clN R 2 ++ if R 2 then [2+1] else []):=rfl;have P:=Va R 2;go_upto_region 5 with fail
    refine Qj (fun z j=>?_);have v0:At z wr.heap.size 0 (I 3):=by rw [j];simp [go_sem]
    have v1:At z wr.heap.size 1 (.func (.func 180) #[] #[.pointer (Az d2),.pointer (Az b2)]):=by rw [j];simp [go_sem]
    have n:Bl wr z:=by
     rw [j];(with_reducible repeat' (first | exact Qd _ | refine Qc ?_ | refine Qe ?_ | refine Qk ?_ ?_)) <;> (first | omega | (simp;done) | (simp;omega))
    have f:=H2 (Qh p.out.1 n) (Qb p.out.2 n);have z5:=Bt v0;clear j n k0 k1 p;generalize hr:R 2=r at x E2
    cases r
    ·go_wp2_with (go_at_call 180;(with_reducible refine (E2.out _ f.out.2).mono ?_);rintro e B ⟨rfl,b⟩;have d:=H2 (Qh f.out.1 b) (Qb f.out.2 b);clear b)
     go_roundg (4 - (2+1))
     case measure=>omega
     case rel =>
      refine ⟨2+1,_,γ,rfl,rfl,rfl, ?_,d.out.2⟩;have e:clN R (2+1)=clN R 2:=by rw [x.out];simp
      rw [e];exact d.out.1
    ·go_wp2_with (first
      | (go_at_call 180;(with_reducible refine (E2.out _ f.out.2).mono ?_);rintro e B ⟨rfl,b⟩;have ab:=Qa b v0;have z6:=b.size;have d:=H2 (Qh f.out.1 b) (Qb f.out.2 b);clear b)
      | (at_builtin;refine wpList_append_own _ rfl (.tmp 30) (.tmp 33) 23 rfl wc.heap.size 3 i3 (I 0) 1 8 Tryz.underlying23 y.out.1 y.out.2.1 y.out.2.2.1 y.out.2.2.2 rfl τ u (clN R 2).length (nV (clN R 2)) rfl (Qh d.out.1 β1) ⟨B.heap.size,0,none⟩ 1 1 [I 3] rfl rfl (Xi B _ _) (by intro q hq;simp at hq;subst hq;rfl) Γ γ ψ ?grow))
     case grow =>
      intro u' Z l h _
      have s:Hid (Z.ownsRow wc.heap.size 3 1 u' (clN R (2+1)).length (nV (clN R (2+1)))∧Bl wc Z):=by
       refine ⟨?_, ?_⟩
       ·rw [x.out,if_pos trivial,Zl,List.length_append];exact l
       ·exact (Qc d.out.2).grown h (Qc d.out.2).size (fun k hk=>Qn d.out.1 k hk)
      clear l h;go_wp2;go_roundg (4 - (2+1))
      case measure=>omega
      case rel=>exact ⟨2+1,_,γ,rfl,rfl,rfl,s.out.1,s.out.2⟩
   ·replace hs:_=I 3:=hs;subst hs;have k0:=Qa p.out.2 m.out.k3;have k1:=Qa p.out.2 m.out.f3;have ac:g<wr.heap.size:=γ;have x:Hid (clN R (3+1)=clN R 3 ++ if R 3 then [3+1] else []):=rfl;have P:=Va R 3;go_upto_region 5 with fail
    refine Qj (fun z j=>?_);have v0:At z wr.heap.size 0 (I 4):=by rw [j];simp [go_sem]
    have v1:At z wr.heap.size 1 (.func (.func 180) #[] #[.pointer (Az d3),.pointer (Az b3)]):=by rw [j];simp [go_sem]
    have n:Bl wr z:=by
     rw [j];(with_reducible repeat' (first | exact Qd _ | refine Qc ?_ | refine Qe ?_ | refine Qk ?_ ?_)) <;> (first | omega | (simp;done) | (simp;omega))
    have f:=H2 (Qh p.out.1 n) (Qb p.out.2 n);have z5:=Bt v0;clear j n k0 k1 p;generalize hr:R 3=r at x E3
    cases r
    ·go_wp2_with (go_at_call 180;(with_reducible refine (E3.out _ f.out.2).mono ?_);rintro e B ⟨rfl,b⟩;have d:=H2 (Qh f.out.1 b) (Qb f.out.2 b);clear b)
     go_roundg (4 - (3+1))
     case measure=>omega
     case rel =>
      refine ⟨3+1,_,γ,rfl,rfl,rfl, ?_,d.out.2⟩;have e:clN R (3+1)=clN R 3:=by rw [x.out];simp
      rw [e];exact d.out.1
    ·go_wp2_with (first
      | (go_at_call 180;(with_reducible refine (E3.out _ f.out.2).mono ?_);rintro e B ⟨rfl,b⟩;have ab:=Qa b v0;have z6:=b.size;have d:=H2 (Qh f.out.1 b) (Qb f.out.2 b);clear b)
      | (at_builtin;refine wpList_append_own _ rfl (.tmp 30) (.tmp 33) 23 rfl wc.heap.size 3 i3 (I 0) 1 8 Tryz.underlying23 y.out.1 y.out.2.1 y.out.2.2.1 y.out.2.2.2 rfl τ u (clN R 3).length (nV (clN R 3)) rfl (Qh d.out.1 β1) ⟨B.heap.size,0,none⟩ 1 1 [I 4] rfl rfl (Xi B _ _) (by intro q hq;simp at hq;subst hq;rfl) Γ γ ψ ?grow))
     case grow =>
      intro u' Z l h _
      have s:Hid (Z.ownsRow wc.heap.size 3 1 u' (clN R (3+1)).length (nV (clN R (3+1)))∧Bl wc Z):=by
       refine ⟨?_, ?_⟩
       ·rw [x.out,if_pos trivial,Zl,List.length_append];exact l
       ·exact (Qc d.out.2).grown h (Qc d.out.2).size (fun k hk=>Qn d.out.1 k hk)
      clear l h;go_wp2;go_roundg (4 - (3+1))
      case measure=>omega
      case rel=>exact ⟨3+1,_,γ,rfl,rfl,rfl,s.out.1,s.out.2⟩
   ·replace hs:_=I 4:=hs;subst hs;obtain ⟨a,c,rfl,_⟩:=Qt p.out.1;go_wp2;exact bodyPost_ret (v:=.slice a (clN R 4).length c) (by simp [results,Tryz.results109,go_sem]) rfl ⟨a,c,rfl,own_leR p.out.1 m.out.bl.size,Qb m.out.bl p.out.2⟩
def rowM (M:Nat→M6):Nat→List Value
 | 0=>[]
 | n+1=>rowM M n ++ [I (M n).1,I (M n).2.1,I (M n).2.2.1,I (M n).2.2.2.1,I (M n).2.2.2.2.1,I (M n).2.2.2.2.2]
theorem Vy (M:Nat→M6):∀ n,(rowM M n).length=n*6
 | 0=>rfl
 | n+1=>by
  unfold rowM;rw [List.length_append,Vy M n];simp;omega
theorem rowM_at (M:Nat→M6):∀ n i,i<n→(rowM M n)[i*6]?=some (I (M i).1)∧(rowM M n)[i*6+1]?=some (I (M i).2.1)∧(rowM M n)[i*6+2]?=some (I (M i).2.2.1)∧(rowM M n)[i*6+3]?=some (I (M i).2.2.2.1)∧(rowM M n)[i*6+4]?=some (I (M i).2.2.2.2.1)∧(rowM M n)[i*6+5]?=some (I (M i).2.2.2.2.2)
 | 0,i,h=>by omega
 | n+1,i,h=>by
  unfold rowM;have hl:=Vy M n;by_cases q:i<n
  ·obtain ⟨h0,h1,h2,h3,h4,h5⟩:=rowM_at M n i q;refine ⟨?_, ?_, ?_, ?_, ?_, ?_⟩ <;> (rw [List.getElem?_append_left γ];assumption)
  ·have e:i=n:=γ;subst e;refine ⟨?_, ?_, ?_, ?_, ?_, ?_⟩ <;> (rw [List.getElem?_append_right γ,hl];simp [Nat.add_sub_cancel_left])
theorem rowM_one (M:Nat→M6):∀ n,∀ u∈rowM M n,u.oneCell'=true
 | 0,u,h=>by simp [rowM] at h
 | n+1,u,h=>by
  unfold rowM at h;rcases List.mem_append.1 h with h | h
  ·exact rowM_one M n u h
  ·simp at h;rcases h with rfl | rfl | rfl | rfl | rfl | rfl <;> rfl
theorem mrow_cells {g:Nat} (h:MRow w g n M):∀ j u,(rowM M n)[j]?=some u→w.cell? ((⟨g,0,none⟩:Addr).add j)=some u:=by
 intro j u a;have b:(⟨g,0,none⟩:Addr).add j=⟨g,j,none⟩:=by unfold Addr.add;split <;> simp_all
 rw [b]
 have i:j<n*6:=by
  have:=(List.getElem?_eq_some_iff.1 a).1;rw [Vy] at this;exact this
 have hi:j / 6<n:=γ;obtain ⟨r0,r1,r2,r3,d,f⟩:=rowM_at M n (j / 6) hi;obtain ⟨⟨c0,c1,c2,c3,c4,c⟩,_⟩:=h (j / 6) hi;have h6:j % 6=0∨j % 6=1∨j % 6=2∨j % 6=3∨j % 6=4∨j % 6=5:=γ;rcases h6 with q | q | q | q | q | q
 ·have e:j=j / 6*6:=γ;rw [e] at a ⊢;rw [r0] at a;rw [← a];exact c0
 ·have e:j=j / 6*6+1:=γ;rw [e] at a ⊢;rw [r1] at a;rw [← a];exact c1
 ·have e:j=j / 6*6+2:=γ;rw [e] at a ⊢;rw [r2] at a;rw [← a];exact c2
 ·have e:j=j / 6*6+3:=γ;rw [e] at a ⊢;rw [r3] at a;rw [← a];exact c3
 ·have e:j=j / 6*6+4:=γ;rw [e] at a ⊢;rw [d] at a;rw [← a];exact c4
 ·have e:j=j / 6*6+5:=γ;rw [e] at a ⊢;rw [f] at a;rw [← a];exact c
theorem own_mrow {v:Value} (h:w.ownsRow base 48 6 v n (rowM M n)) (j:0<n):∃ g c,v=.slice (some ⟨g,0,none⟩) n c∧MRow w g n M∧base≤g:=by
 rcases h.2 with ⟨_,h0⟩ | ⟨g,b,d,rfl,hb,h3,_⟩
 ·omega
 ·have a:∀ o,w.frozen? ⟨g,o,none⟩=false:=fun o=>by simp [World.frozen?,h3]
  refine ⟨g,b,rfl,fun i hi=>⟨?_,⟨a _,a _,a _,a _,a _,a _⟩⟩,hb⟩;obtain ⟨r0,r1,r2,r3,e,f⟩:=rowM_at M n i hi;refine ⟨?_, ?_, ?_, ?_, ?_, ?_⟩
  ·(try simp only [At,I]);rw [h.cellAt (i*6) γ,r0]
  ·(try simp only [At,I]);rw [h.cellAt (i*6+1) γ,r1]
  ·(try simp only [At,I]);rw [h.cellAt (i*6+2) γ,r2]
  ·(try simp only [At,I]);rw [h.cellAt (i*6+3) γ,r3]
  ·(try simp only [At,I]);rw [h.cellAt (i*6+4) γ,e]
  ·(try simp only [At,I]);rw [h.cellAt (i*6+5) γ,f]
theorem Vr (w:World) (g n c:Nat) (M:Nat→M6) (d:MRow w g n M) (h0:0<n) (h:n≤300) :
  Cl 66 #[.slice (Az g) n c] w fun e w'=>∃ a b,e=.returned (.slice (Az a) n b)∧MRow w' a n M∧w.heap.size≤a∧Bl w w':=by
 refine (clone_maps w g 0 n c (rowM M n) (Vy M n) (mrow_cells d) (rowM_one M n) γ).mono ?_;rintro e w' ⟨v,rfl,f,hb⟩;obtain ⟨a,b,rfl,h1,h2⟩:=own_mrow f h0;exact ⟨a,b,rfl,h1,h2,hb⟩
theorem MRow.set {g:Nat} (h:MRow w g n M) {b o:Nat} {u:Value} (a:g≠b):MRow (w.setCell ⟨b,o,none⟩ u) g n M:=h.grown (Qg w b o u) (by simpa using a)
def StateTo (w w':World) (W H:Int) (n nn:Nat) (zs ks:List Int) (M:Nat→M6) (L:List T3) (pl:Nat→Int×Int×Int) (h:Nat→Int) (e:Ending):Prop := ∃ a ca b cb g c t u Hp,e=.returned (.agg #[I W,I H,.slice a zs.length ca,.slice b n cb,.slice (Az g) nn c,.slice t (List.length Hp) u])∧RowF w' w.heap.size a zs∧RowF w' w.heap.size b ks∧MRow w' g nn M∧w.heap.size≤g∧Heap nn pl h Hp∧SRowF w' w.heap.size t (Hp.map fun s=>(s.1,tgn L s.2))∧Bl w w'
theorem state_any (w:World) (W H:Int) (a b:Option Addr) (ca cb n:Nat) (zs ks:List Int) (ad pa:Option Addr) (cc ra rk P cm pc:Nat) (M:Nat→M6) (L pl:List T3) (rv:Value) (h:Nat→Int) (hz:Row w a zs) (hk:Row w b ks) (hn:ks.length=n*5) (h1:zs.length≤17592186044416) (h2:n≤3518437208883) (ha:a=none∨∃ p off,a=Ad p off) (hb:b=none∨∃ p off,b=Ad p off)
  (hl:pl.length=L.length) (hT:TRow w ad L) (hP:TRow w pa pl) (hM:MRow w P L.length M) (h0:0<L.length) (bo:L.length≤300) (hS:∀ W,Bl w W→SortsN W L.length rv h) (D:∀ i j,i<pl.length→j<pl.length→pl.getD i (0,0,0)=pl.getD j (0,0,0)→i≠j→h i≠h j) :
  Cl 33 #[pileV ad L.length cc ra rk P cm pa pc,.agg #[I W,I H,.slice a zs.length ca,.slice b n cb],rv] w fun e w'=>StateTo w w' W H n L.length zs ks M L (plcA pl) h e:=by
 have C1:=Hd (fun (V:World) C=>copy_any W H a b ca cb n zs ks V (hz.kept C) (hk.kept C) hn h1 h2 ha hb);have C2:=Hd (fun (V:World) C=>Vr V P L.length cm M (hM.kept C) h0 bo);have C3:Hid (∀ V:World,Bl w V→Cl 67 #[.agg #[.slice ad L.length cc,.map (some ra),.map (some rk),.slice (Az P) L.length cm,.slice pa L.length pc],rv] V fun e w'=>∃ a c H,e=.returned (.slice a H.length c)∧Heap L.length (plcA pl) h H∧SRowF w' V.heap.size a (H.map fun s=>(s.1,tgn L s.2))∧Bl V w'):=fun V C=>stacks_any V ad pa cc ra rk P cm pc L pl rv h hl (hT.kept C) (hP.kept C) h0 bo (fun W' cw=>hS W' (Qb C cw)) D;unfold pileV;obtain ⟨z,bp⟩:∃ z,z=L.length:=⟨_,rfl⟩;obtain ⟨m,hm⟩:∃ m,m=zs.length:=⟨_,rfl⟩;rw [← hm] at C1 ⊢;rw [← bp] at C2 C3 ⊢;have HM:=Hd hm;clear hz hk ha hb hT hP hM hS D hm bp hl;go_enter Tryz.func33,Tryz.ntmps33;go_upto_region 1 with fail
 refine Qj (fun r hW0=>?_);have t:Bl w r.drew:=Qe δ4;have A:At r w.heap.size 0 (.slice ad z cc):=η;have Q:At r w.heap.size 1 (.map (some ra)):=η;have R:At r w.heap.size 2 (.map (some rk)):=η;have T:At r w.heap.size 3 (.slice (Az P) z cm):=η;have U:At r w.heap.size 4 (.slice pa z pc):=η;have B:At r (w.heap.size+1) 0 (I W):=η;have X:At r (w.heap.size+1) 1 (I H):=η;have Y:At r (w.heap.size+1) 2 (.slice a m ca):=η;have Z:At r (w.heap.size+1) 3 (.slice b n cb):=η;have k:w.heap.size+3≤r.drew.heap.size:=by rw [hW0];simp [World.drew]
 have a6:At r (w.heap.size+2) 0 (I 0):=η;have F:r.frozen? ⟨w.heap.size+2,0,none⟩=false:=η;have a7:At r (w.heap.size+2) 1 (I 0):=η;have G:r.frozen? ⟨w.heap.size+2,1,none⟩=false:=η;have a8:At r (w.heap.size+2) 2 SN:=η;have J:r.frozen? ⟨w.heap.size+2,2,none⟩=false:=η;have aa:At r (w.heap.size+2) 3 SN:=η;have K:r.frozen? ⟨w.heap.size+2,3,none⟩=false:=η;have ab:At r (w.heap.size+2) 4 SN:=η;have N:r.frozen? ⟨w.heap.size+2,4,none⟩=false:=η;have ac:At r (w.heap.size+2) 5 SN:=η;have O:r.frozen? ⟨w.heap.size+2,5,none⟩=false:=η;have zA:=Bt A;have zB:=Bt B;clear hW0
 go_region_held3 (fun w'=>At w' w.heap.size 0 (.slice ad z cc)∧At w' w.heap.size 1 (.map (some ra))∧At w' w.heap.size 2 (.map (some rk))∧At w' w.heap.size 3 (.slice (Az P) z cm)∧At w' w.heap.size 4 (.slice pa z pc)∧At w' (w.heap.size+1) 0 (I W)∧At w' (w.heap.size+1) 1 (I H)∧At w' (w.heap.size+1) 2 (.slice a m ca)∧At w' (w.heap.size+1) 3 (.slice b n cb))
  ((refine ⟨?_, ?_, ?_, ?_, ?_, ?_, ?_, ?_, ?_⟩ <;> (first | (with_reducible (repeat (first | assumption | refine Qi ?_));done) | ((repeat (with_reducible refine Xc ?_ θ));with_reducible assumption))))
  (first
   | (go_at_call 65;refine (C1.out _ (by first | exact x | exact y | exact t)).mono ?_;rintro e w1 ⟨a1,k1,a2,k2,rfl,bh,bi,g⟩;have u:Bl w w1:=(by first | exact Qb x g | exact Qb y g | exact Qb t g);have q:w.heap.size+3≤w1.heap.size:=Nt (by first | exact l | exact o | exact k) g.size;have az:Hid (RowF w1 (w.heap.size+3) a1 zs∧RowF w1 (w.heap.size+3) a2 ks):=⟨bh.low (by first | exact l | exact o | exact k),bi.low (by first | exact l | exact o | exact k)⟩;clear bh bi;have bq:=Qa g (by first | exact A | exact c6 | exact ci);have br:=Qa g (by first | exact Q | exact c7 | exact cj);have bs:=Qa g (by first | exact R | exact c8 | exact cl);have bt:=Qa g (by first | exact T | exact c9 | exact co);have bu:=Qa g (by first | exact U | exact cd | exact cp);have bv:=Qa g (by first | exact B | exact ce | exact cq);have bw:=Qa g (by first | exact X | exact cf | exact ct);have bz:=Qa g (by first | exact Y | exact cg | exact cu);have c5:=Qa g (by first | exact Z | exact ch | exact cv);have ae:=Qa g (by first | exact a6 | exact ak | exact ar);have b6:=(g.frozen (p:=⟨w.heap.size+2,0,none⟩) (by first | exact k | exact l | exact o)).trans (by first | exact F | exact f20 | exact ba);have af:=Qa g (by first | exact a7 | exact am | exact au);have b7:=(g.frozen (p:=⟨w.heap.size+2,1,none⟩) (by first | exact k | exact l | exact o)).trans (by first | exact G | exact f21 | exact bb);have ag:=Qa g (by first | exact a8 | exact an | exact av);have b8:=(g.frozen (p:=⟨w.heap.size+2,2,none⟩) (by first | exact k | exact l | exact o)).trans (by first | exact J | exact f22 | exact bc);have ah:=Qa g (by first | exact aa | exact ao | exact aw);have b9:=(g.frozen (p:=⟨w.heap.size+2,3,none⟩) (by first | exact k | exact l | exact o)).trans (by first | exact K | exact f23 | exact be);have ai:=Qa g (by first | exact ab | exact ap | exact ax);have f14:=(g.frozen (p:=⟨w.heap.size+2,4,none⟩) (by first | exact k | exact l | exact o)).trans (by first | exact N | exact f24 | exact bf);have aj:=Qa g (by first | exact ac | exact aq | exact ay);have f15:=(g.frozen (p:=⟨w.heap.size+2,5,none⟩) (by first | exact k | exact l | exact o)).trans (by first | exact O | exact f25 | exact bg))
   | (go_at_call 66;refine (C2.out _ (by first | exact u | exact y | exact t)).mono ?_;rintro e w2 ⟨g1,c1,rfl,bj,bk,d⟩;have x:Bl w w2:=(by first | exact Qb u d | exact Qb y d | exact Qb t d);have l:w.heap.size+3≤w2.heap.size:=Nt (by first | exact q | exact o | exact k) d.size;have E:Hid (MRow w2 g1 z M∧w.heap.size+3≤g1):=⟨bj,Nt (by first | exact q | exact o | exact k) bk⟩;clear bj bk;have c6:=Qa d (by first | exact A | exact bq | exact ci);have c7:=Qa d (by first | exact Q | exact br | exact cj);have c8:=Qa d (by first | exact R | exact bs | exact cl);have c9:=Qa d (by first | exact T | exact bt | exact co);have cd:=Qa d (by first | exact U | exact bu | exact cp);have ce:=Qa d (by first | exact B | exact bv | exact cq);have cf:=Qa d (by first | exact X | exact bw | exact ct);have cg:=Qa d (by first | exact Y | exact bz | exact cu);have ch:=Qa d (by first | exact Z | exact c5 | exact cv);have ak:=Qa d (by first | exact a6 | exact ae | exact ar);have f20:=(d.frozen (p:=⟨w.heap.size+2,0,none⟩) (by first | exact k | exact q | exact o)).trans (by first | exact F | exact b6 | exact ba);have am:=Qa d (by first | exact a7 | exact af | exact au);have f21:=(d.frozen (p:=⟨w.heap.size+2,1,none⟩) (by first | exact k | exact q | exact o)).trans (by first | exact G | exact b7 | exact bb);have an:=Qa d (by first | exact a8 | exact ag | exact av);have f22:=(d.frozen (p:=⟨w.heap.size+2,2,none⟩) (by first | exact k | exact q | exact o)).trans (by first | exact J | exact b8 | exact bc);have ao:=Qa d (by first | exact aa | exact ah | exact aw);have f23:=(d.frozen (p:=⟨w.heap.size+2,3,none⟩) (by first | exact k | exact q | exact o)).trans (by first | exact K | exact b9 | exact be);have ap:=Qa d (by first | exact ab | exact ai | exact ax);have f24:=(d.frozen (p:=⟨w.heap.size+2,4,none⟩) (by first | exact k | exact q | exact o)).trans (by first | exact N | exact f14 | exact bf);have aq:=Qa d (by first | exact ac | exact aj | exact ay);have f25:=(d.frozen (p:=⟨w.heap.size+2,5,none⟩) (by first | exact k | exact q | exact o)).trans (by first | exact O | exact f15 | exact bg))
   | (go_at_call 67;refine (C3.out _ (by first | exact u | exact x | exact t)).mono ?_;rintro e w3 ⟨t1,u1,Hp,rfl,bm,bn,f⟩;have y:Bl w w3:=(by first | exact Qb u f | exact Qb x f | exact Qb t f);have o:w.heap.size+3≤w3.heap.size:=Nt (by first | exact q | exact l | exact k) f.size;have b5:Hid (Heap z (plcA pl) h Hp∧SRowF w3 (w.heap.size+3) t1 (Hp.map fun s=>(s.1,tgn L s.2))):=⟨bm,bn.low (by first | exact q | exact l | exact k)⟩;clear bm bn;have ci:=Qa f (by first | exact A | exact bq | exact c6);have cj:=Qa f (by first | exact Q | exact br | exact c7);have cl:=Qa f (by first | exact R | exact bs | exact c8);have co:=Qa f (by first | exact T | exact bt | exact c9);have cp:=Qa f (by first | exact U | exact bu | exact cd);have cq:=Qa f (by first | exact B | exact bv | exact ce);have ct:=Qa f (by first | exact X | exact bw | exact cf);have cu:=Qa f (by first | exact Y | exact bz | exact cg);have cv:=Qa f (by first | exact Z | exact c5 | exact ch);have ar:=Qa f (by first | exact a6 | exact ae | exact ak);have ba:=(f.frozen (p:=⟨w.heap.size+2,0,none⟩) (by first | exact k | exact q | exact l)).trans (by first | exact F | exact b6 | exact f20);have au:=Qa f (by first | exact a7 | exact af | exact am);have bb:=(f.frozen (p:=⟨w.heap.size+2,1,none⟩) (by first | exact k | exact q | exact l)).trans (by first | exact G | exact b7 | exact f21);have av:=Qa f (by first | exact a8 | exact ag | exact an);have bc:=(f.frozen (p:=⟨w.heap.size+2,2,none⟩) (by first | exact k | exact q | exact l)).trans (by first | exact J | exact b8 | exact f22);have aw:=Qa f (by first | exact aa | exact ah | exact ao);have be:=(f.frozen (p:=⟨w.heap.size+2,3,none⟩) (by first | exact k | exact q | exact l)).trans (by first | exact K | exact b9 | exact f23);have ax:=Qa f (by first | exact ab | exact ai | exact ap);have bf:=(f.frozen (p:=⟨w.heap.size+2,4,none⟩) (by first | exact k | exact q | exact l)).trans (by first | exact N | exact f14 | exact f24);have ay:=Qa f (by first | exact ac | exact aj | exact aq);have bg:=(f.frozen (p:=⟨w.heap.size+2,5,none⟩) (by first | exact k | exact q | exact l)).trans (by first | exact O | exact f15 | exact f25)))
 all_goals
  go_wp2;refine bodyPost_ret (v:=.agg #[I W,I H,.slice a1 zs.length k1,.slice a2 n k2,.slice (Az g1) z c1,.slice t1 Hp.length u1]) (by first | (simp [results,Tryz.results33,go_sem];done) | (simp [results,Tryz.results33,go_sem];done) | (simp [results,Tryz.results33,go_sem,ar,au,av,aw,ax,ay];done)) rfl ⟨a1,k1,a2,k2,g1,c1,t1,u1,Hp,rfl, ?_, ?_, ?_,(by have:=E.out.2;omega),b5.out.1, ?_, ?_⟩
  ·refine RowF.low (base:=w.heap.size+3) ?_ γ;with_reducible repeat (refine RowF.set ?_ θ)
   exact az.out.1.kept (by with_reducible first | exact Qd _ | exact d | exact f | exact Qb d f | exact Qb f d)
  ·refine RowF.low (base:=w.heap.size+3) ?_ γ;with_reducible repeat (refine RowF.set ?_ θ)
   exact az.out.2.kept (by with_reducible first | exact Qd _ | exact d | exact f | exact Qb d f | exact Qb f d)
  ·have cx:=E.out.2;with_reducible repeat (refine MRow.set ?_ γ)
   exact E.out.1.kept (by with_reducible first | exact Qd _ | exact g | exact f | exact Qb g f | exact Qb f g)
  ·refine SRowF.low (base:=w.heap.size+3) ?_ γ;with_reducible repeat (refine SRowF.set ?_ θ)
   exact b5.out.2.kept (by with_reducible first | exact Qd _ | exact g | exact d | exact Qb g d | exact Qb d g)
  ·with_reducible repeat (refine Qk ?_ ?_)
   all_goals first | (with_reducible exact u) | (with_reducible exact x) | (with_reducible exact y) | omega | (dsimp only;omega)
end Go.Proofs.YtbjmnlefkbhbdaaGreatDoor
