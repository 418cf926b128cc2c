/- A part of it. -/
import Derived.Test.YtjkjpopghkeibaaGreatDoorQlav
set_option maxRecDepth 100000
set_option maxHeartbeats 40000000
namespace Go.Proofs.YtjkjpopghkeibaaGreatDoor
open Go.RowKit
variable {w w':World} {h:Nat→Int} {N a b d e g k r:Nat} {L:List T3} {M:Nat→M6} {pa:Option Addr}
theorem by_val (w:World) (a:Option Addr) (n c:Nat):Cl 39 #[.slice a n c] w fun e w'=>∃ bf,e=.returned (.func (.func 90) #[] #[.pointer (Az bf)])∧At w' bf 0 (.slice a n c)∧w.heap.size≤bf∧Bl w w':=by
 have b:=Jf;go_enter Tryz.func39,Tryz.ntmps39;go_wp2;go_ret;exact ⟨_,rfl,δ,Nr _,Qb (Qe _)⟩
structure HX (w:World) (r bf g N cf:Nat) (h:Nat→Int):Prop where
 c:At w bf 0 (.slice (Az g) N cf)
 z:∀ i,i<N→At w g i (I (h i))
 n1:bf≠r
 n2:g≠r
theorem HX.set (a:HX w r b g N d h) (o:Nat) (u:Value):HX (w.setCell ⟨r,o,none⟩ u) r b g N d h :=
 ⟨Xh a.c a.n1,fun i hi=>Xh (a.z i hi) a.n2,a.n1,a.n2⟩
theorem HX.kept (a:HX w r b g N d h) (e:Bl w w'):HX w' r b g N d h :=
 ⟨Qa e a.c,fun i hi=>Qa e (a.z i hi),a.n1,a.n2⟩
theorem HX.dr (c:HX w r a g N b h):HX w.drew r a g N b h:=c.kept (Qg (Qe _))
theorem HX.hg (d:HX w r a g N b h):Hg w a N h:=⟨g,0,b,d.c,fun i hi=>by rw [Nat.zero_add];exact d.z i hi⟩
def FSh (f:Value):Prop:=f=.nilFunc∨∃ bf:Nat,f=.func (.func 90) #[] #[.pointer (Az bf)]
def OfNf (w w':World) (e:Ending):Prop := ∃ z0 k0 d0 m1 m2 z3 k3 d3 z4 k4 d4 f,e=.returned (.tuple #[.agg #[.slice z0 k0 d0,.map m1,.map m2,.slice z3 k3 d3,.slice z4 k4 d4],f,.bool false])∧Bl w w'∧FSh f
def OfTv (w w':World) (kd:E4→Int) (L:List T3) (mn:Nat) (M:Nat→M6) (S:List (T3×List T3)) (e:Ending):Prop:=(OfNf w w' e∧¬ SOk kd L mn M S)∨(SOk kd L mn M S∧∃ ad k ra rk gm cm pa pc bf h,e=.returned (.tuple #[.agg #[.slice ad L.length k,.map (some ra),.map (some rk),.slice (Az gm) L.length cm,.slice pa L.length pc],ABv bf,.bool true])∧PileAt w' ad k ra rk gm cm pa pc L kd M∧Hg w' bf L.length h∧Lv S L h S.length 0∧Bl w w')
def Hg0 (w:World) (bh N:Nat) (h:Nat→Int):Prop := ∃ g c,At w bh 0 (.slice (Az g) N c)∧∀ i,i<N→At w g i (I (h i))
theorem Hg0.kept (k:Hg0 w a N h) (hb:Bl w w'):Hg0 w' a N h:=by
 obtain ⟨g,c,h1,h2⟩:=k;exact ⟨g,c,Qa hb h1,fun i hi=>Qa hb (h2 i hi)⟩
theorem Hg0.hg (k:Hg0 w a N h):Hg w a N h:=by
 obtain ⟨g,c,h1,h2⟩:=k;exact ⟨g,0,c,h1,fun i hi=>by rw [Nat.zero_add];exact h2 i hi⟩
def HandAt (w0 w:World) (ad:Option Addr) (k ra rk gm:Nat) (pa:Option Addr) (bf:Nat) (L:List T3) (ks:List Int) (nk:Nat) (M:Nat→M6) (h:Nat→Int):Prop:=(∃ base,PK w0 w base ra rk (.slice ad L.length k) L (gix L) (kf ks nk))∧MRow w gm L.length M∧TRow w pa (pls L M L.length)∧Hg0 w bf L.length h
theorem HandAt.kept {i:World} {a:Option Addr} {f c:Nat} {d:List Int} (H:HandAt i w a k f g c pa b L d e M h) (hb:Bl w w'):HandAt i w' a k f g c pa b L d e M h:=by
 obtain ⟨⟨base,h1⟩,h2,h3,h4⟩:=H;exact ⟨⟨base,h1.kept hb⟩,h2.kept hb,h3.kept hb,h4.kept hb⟩
theorem HandAt.pile {j:World} {a:Option Addr} {f:Nat} {c:List Int} (H:HandAt j w a k e f b pa g L c d M h) (i pc:Nat):PileAt w a k e f b i pa pc L (kdn c d) M:=by
 obtain ⟨⟨base,h1⟩,h2,h3,h4⟩:=H;exact ⟨h1.pa,h1.kl,h2,h3⟩
theorem HandAt.box {d b:World} {f:Option Addr} {t u l:Nat} {j:Nat} {o:List Int} {p:Nat} (H:HandAt b w f k t u l pa j L o p M h) (h0:0<L.length) (v:Bl d b) (hg:w.grownBy w' (some r)) (h1:d.heap.size≤r) (h2:r<b.heap.size) (a:w.cell? ⟨r,0,none⟩=some SN):HandAt d w' f k t u l pa j L o p M h:=by
 obtain ⟨⟨base,hp⟩,m,n,g,c,q,s⟩:=H;have x:=hp.2.2.2.1;refine ⟨⟨base,(hp.base v).grown hg h1 γ γ γ⟩,m.grown hg (m.not_at h0 a),n.grown hg (n.not_at (by simpa [pls] using h0) a),g,c,hg.cell q (fun e=>?_),fun i hi=>hg.cell (s i hi) (fun e=>?_)⟩
 ·cases e;(try simp only at a);rw [q] at a
  simp at a
 ·cases e;have:=s 0 h0;(try simp only [At,I] at this);rw [a] at this
  cases this
def OfTw (w w':World) (ks:List Int) (nk:Nat) (L:List T3) (mn:Nat) (M:Nat→M6) (S:List (T3×List T3)) (e:Ending):Prop:=(OfNf w w' e∧¬ SOk (kdn ks nk) L mn M S)∨(SOk (kdn ks nk) L mn M S∧∃ ad k ra rk gm cm pa pc bf h,e=.returned (.tuple #[.agg #[.slice ad L.length k,.map (some ra),.map (some rk),.slice (Az gm) L.length cm,.slice pa L.length pc],ABv bf,.bool true])∧HandAt w w' ad k ra rk gm pa bf L ks nk M h∧Lv S L h S.length 0∧Bl w w')
theorem OfTw.v {b:List Int} {c:Nat} {S:List (T3×List T3)} {e:Ending} (h:OfTw w w' b d L c M S e):OfTv w w' (kdn b d) L c M S e:=by
 rcases h with h | ⟨h1,f,k,j,l,i,a,pa,pc,g,h,h2,h3,h4,h5⟩
 ·exact Or.inl h
 ·exact Or.inr ⟨h1,f,k,j,l,i,a,pa,pc,g,h,h2,h3.pile a pc,h3.2.2.2.hg,h4,h5⟩
theorem ofTw_of {base j l:Nat} {d:Option Addr} {o pc:Nat} {f:List Int} {i:Nat} {S:List (T3×List T3)} {b:Bool} (h1:b=true↔StOk L (plF (pls L M L.length)) S) (h2:MOk (kdn f i) L M) (hp:PX w w' r base j l e d pa k L M f i) (p:b=true→∃ g m h,HX w' r a g L.length m h∧Lv S L h S.length 0):OfTw w w' f i L L.length M S (.returned (.tuple #[.agg #[.slice d L.length k,.map (some j),.map (some l),.slice (Az e) L.length o,.slice pa L.length pc],.func (.func 90) #[] #[.pointer (Az a)],.bool b])):=by
 have hb:Bl w w':=hp.pk.2.2.2.2
 cases b
 ·exact Or.inl ⟨⟨_,_,_,_,_,_,_,_,_,_,_,_,rfl,hb,Or.inr ⟨a,rfl⟩⟩,fun h=>by have:=h1.2 h.2.2;cases this⟩
 ·obtain ⟨g,m,h,n,hl⟩:=p rfl;exact Or.inr ⟨⟨rfl,h2,h1.1 rfl⟩,d,k,j,l,e,o,pa,pc,a,h,rfl,⟨⟨_,hp.pk⟩,hp.mr,hp.tr,⟨_,_,n.c,n.z⟩⟩,hl,hb⟩
theorem of_yesw (W H:Int) (a c mp J:Option Addr) (zl U n X T u P:Nat) (w:World) (Y:List Int) (Z:Nat) (L:List T3) (M:Nat→M6) (S:List (T3×List T3)) (hs:Steps w)
  (CL:Hid (∀ V:World,Bl w V→Cl 17 #[.agg #[I W,I H,.slice a zl U,.slice c n X]] V fun e w'=>∃ x k base y z,e=.returned (.tuple #[.agg #[.slice x L.length k,.map (some y),.map (some z)],.bool true])∧PK V w' base y z (.slice x L.length k) L (gix L) (kf Y Z)))
  (hM:0<T→∃ o,mp=Az o∧MRow w o T M) (hS:SRow w J S) (aq:L.Pairwise ltT) (h0:0<L.length) (hL:L.length≤300) (af:∀ t∈L,(0≤t.1∧t.1≤8)∧(0≤t.2.1∧t.2.1≤8)∧(0≤t.2.2∧t.2.2≤3)) (aw:S.length≤17592186044416) (ae:∀ s∈S,s.2.length≤17592186044416) :
  Cl 16 #[.agg #[I W,I H,.slice a zl U,.slice c n X,.slice mp T u,.slice J S.length P]] w fun e w'=>OfTw w w' Y Z L T M S e:=by
 have HS:Hid (Steps w∧SRow w J S∧L.Pairwise ltT∧(∀ t∈L,(0≤t.1∧t.1≤8)∧(0≤t.2.1∧t.2.1≤8)∧(0≤t.2.2∧t.2.2≤3))∧∀ s∈S,s.2.length≤17592186044416):=⟨hs,hS,aq,af,ae⟩;have HM:=Hd hM;clear hs hS aq af ae hM;go_enter Tryz.func16,Tryz.ntmps16;go_upto_region 4 with (go_at_call 17;refine (CL.out _ Ψ).mono ?_;rintro e w2 ⟨x,k,base,y,z,rfl,ap⟩;have K:=Hd ap;clear ap)
 refine Qi (fun W3 D=>?_);obtain ⟨G,hG⟩:∃ G,G=w2.heap.size:=⟨_,rfl⟩
 have N:Bl w2 W3:=by
  rw [D];with_reducible repeat (first | exact Qe _ | refine Qb ?_ | refine Qh ?_ ?_)
  all_goals (dsimp only;omega)
 have A:At W3 G 0 (.slice x L.length k):=by rw [D,hG];simp [go_sem]
 have q1:At W3 G 1 (.map (some y)):=by rw [D,hG];simp [go_sem]
 have q2:At W3 G 2 (.map (some z)):=by rw [D,hG];simp [go_sem]
 rw [← hG];have b:=H3 (Qc K.out.2.2.2.2 N) (K.out.kept N) (Qc β2 (Qc K.out.2.2.2.2 N));clear D hG N K;have x4:At W3 w.heap.size 4 (.slice mp T u):=Qa b.out.1 δ;have zq:=Bt A;have zx:=Bt x4;by_cases hmn:T=L.length
 ·obtain ⟨o,rfl,E⟩:=HM.out γ;subst hmn;have CS:=Hd (fun (V:World) O=>spread_gen V k y z o u x L (kdn Y Z) M (HS.out.1.kept (Qc b.out.2.2 O)) (b.out.2.1.pa.kept O) (b.out.2.1.kl.kept O) hL HS.out.2.2.2.1 (E.kept (Qc b.out.2.2 O)));clear HM;go_upto_region 5 with (go_at_call 32;refine (CS.out _ (Qe _)).mono ?_;rintro e d h4;have H4:=Hd h4;clear h4;rcases H4.out with ⟨z0,k0,d0,m1,m2,z3,k3,d3,z4,k4,d4,rfl,an,g⟩ | ⟨pa,pc,rfl,ao,Q,g⟩)
  ·have HB4:Hid (Below ((w.alloc (.cells #[I W,I H,.slice a zl U,.slice c n X,.slice (Az o) L.length u,.slice J S.length P] 29)).alloc (.cells #[SN,.map none,.map none,SN,SN] 61)).heap.size ((w.alloc (.cells #[I W,I H,.slice a zl U,.slice c n X,.slice (Az o) L.length u,.slice J S.length P] 29)).alloc (.cells #[SN,.map none,.map none,SN,SN] 61)) d∧¬ MOk (kdn Y Z) L M):=⟨Qc b.out.1 g,an⟩;clear an g A q1 q2 x4 zq zx H4 CS E;have e0:At d (w.heap.size+1) 0 SN:=Qa HB4.out.1 δ;have e1:At d (w.heap.size+1) 1 (.map none):=Qa HB4.out.1 δ;have e2:At d (w.heap.size+1) 2 (.map none):=Qa HB4.out.1 δ;have e3:At d (w.heap.size+1) 3 SN:=Qa HB4.out.1 δ;have e4:At d (w.heap.size+1) 4 SN:=Qa HB4.out.1 δ;have C:=Bt e0;have f0:Fn d (w.heap.size+1) 0:=(Below.frozen HB4.out.1 ξ).trans δ;have f1:Fn d (w.heap.size+1) 1:=(Below.frozen HB4.out.1 ξ).trans δ;have f2:Fn d (w.heap.size+1) 2:=(Below.frozen HB4.out.1 ξ).trans δ;have f3:Fn d (w.heap.size+1) 3:=(Below.frozen HB4.out.1 ξ).trans δ;have f4:Fn d (w.heap.size+1) 4:=(Below.frozen HB4.out.1 ξ).trans δ;go_wp2;refine bodyPost_ret (v:=.tuple #[.agg #[SN,.map none,.map none,SN,SN],.nilFunc,.bool false]) (by simp [results,Tryz.results16,go_sem, *]) rfl (Or.inl ⟨⟨none,0,0,none,none,none,0,0,none,0,0,_,rfl, ?_,Or.inl rfl⟩,fun h=>HB4.out.2 h.2.1⟩);with_reducible repeat' (first | exact Qc β2 HB4.out.1 | refine Qh ?_ ?_ | refine Qb ?_)
   all_goals (dsimp only;omega)
  ·have ai:At d (w.heap.size+1) 0 SN:=Qa (Qc b.out.1 g) δ
   have HB4:Hid (Below ((w.alloc (.cells #[I W,I H,.slice a zl U,.slice c n X,.slice (Az o) L.length u,.slice J S.length P] 29)).alloc (.cells #[SN,.map none,.map none,SN,SN] 61)).heap.size ((w.alloc (.cells #[I W,I H,.slice a zl U,.slice c n X,.slice (Az o) L.length u,.slice J S.length P] 29)).alloc (.cells #[SN,.map none,.map none,SN,SN] 61)) d∧MOk (kdn Y Z) L M∧PX w d (w.heap.size+1) base y z o x pa k L M Y Z):=by
    obtain ⟨_,_,_,⟨a1,a2,a3,a4,a5,a6,a7⟩,_⟩:=b.out.2.1;simp only [World.size_alloc] at a1 a2 a3 a4 a5 a6 a7;have ay:=bk (E 0 h0).1.1;dsimp only at ay;exact ⟨Qc b.out.1 g,ao,(b.out.2.1.base β2).kept g,(E.kept b.out.2.2).kept g,Q,γ,γ,γ,γ,γ,Q.not_at (by rw [Yj];exact h0) ai⟩
   clear ai;clear ao Q g A q1 q2 x4 zq zx H4 CS b E;go_upto_region 7 with fail
   refine Qi (fun F q=>?_);obtain ⟨j,p⟩:∃ G,G=d.heap.size:=⟨_,rfl⟩
   have R:Bl d F:=by
    rw [q];with_reducible repeat (first | exact Qe _ | refine Qb ?_ | refine Qh ?_ ?_)
    all_goals (dsimp only;omega)
   have A:At F j 0 (.slice x L.length k):=by rw [q,p];simp [go_sem]
   have q1:At F j 1 (.map (some y)):=by rw [q,p];simp [go_sem]
   have q2:At F j 2 (.map (some z)):=by rw [q,p];simp [go_sem]
   have q3:At F j 3 (.slice (Az o) L.length u):=by rw [q,p];simp [go_sem]
   have q4:At F j 4 (.slice pa L.length pc):=by rw [q,p];simp [go_sem]
   rw [← p];have l:=H3 (Qc HB4.out.1 R) HB4.out.2.1 (HB4.out.2.2.kept R);clear q p R HB4;have x5:At F w.heap.size 5 (.slice J S.length P):=Qa l.out.1 δ;have zq:=Bt A;have zx:=Bt x5;have CH:Hid (∀ V:World,Bl F V→Cl 38 #[.agg #[.slice x L.length k,.map (some y),.map (some z),.slice (Az o) L.length u,.slice pa L.length pc],.slice J S.length P] V fun e w'=>HgTv L (pls L M L.length) S V w' e):=fun V O=>heights_lv V L.length k pc P y z o u x pa J L (pls L M L.length) S (l.out.2.2.pk.pa.1.kept O) (l.out.2.2.tr.kept O) (HS.out.2.1.kept (Qc l.out.2.2.pk.2.2.2.2 O)) rfl (Yj _ _ _) HS.out.2.2.1 h0 hL aw HS.out.2.2.2.2
   have au:Hid (w.heap.size+1<F.heap.size):=by
    have av:w.heap.size+1<F.heap.size:=by
     have:=l.out.1.size;simp only [World.size_alloc] at this;omega
    exact av
   go_upto_region 8 with (go_at_call 38;go_loud (refine (CH.out _ (Qe _)).mono ?_;rintro e B ⟨ha,am,hc,bh,rfl,ag,m,aj⟩;have HV:=Hd aj;clear aj;have f:=H3 (Qc l.out.1 m) m ag;replace A:=Qa m A;replace q1:=Qa m q1;replace q2:=Qa m q2;replace q3:=Qa m q3;replace q4:=Qa m q4;clear m ag))
   clear x5 zx CH;replace zq:j<B.heap.size:=bk A;have d0:At B (w.heap.size+1) 0 SN:=Qa f.out.1 δ;have d1:At B (w.heap.size+1) 1 (.map none):=Qa f.out.1 δ;have d2:At B (w.heap.size+1) 2 (.map none):=Qa f.out.1 δ;have d3:At B (w.heap.size+1) 3 SN:=Qa f.out.1 δ;have d4:At B (w.heap.size+1) 4 SN:=Qa f.out.1 δ;have C:=Bt d0;have k0:Fn B (w.heap.size+1) 0:=(Below.frozen f.out.1 ξ).trans δ;have k1:Fn B (w.heap.size+1) 1:=(Below.frozen f.out.1 ξ).trans δ;have k2:Fn B (w.heap.size+1) 2:=(Below.frozen f.out.1 ξ).trans δ;have k3:Fn B (w.heap.size+1) 3:=(Below.frozen f.out.1 ξ).trans δ;have k4:Fn B (w.heap.size+1) 4:=(Below.frozen f.out.1 ξ).trans δ
   have bq:j≠w.heap.size+1:=by
    intro e;rw [e] at A;rw [d0] at A;simp only [Option.some.injEq,Value.slice.injEq] at A;omega
   go_region_held3 (fun w'=>At w' j 0 (.slice x L.length k)∧At w' j 1 (.map (some y))∧At w' j 2 (.map (some z))∧At w' j 3 (.slice (Az o) L.length u)∧At w' j 4 (.slice pa L.length pc))
    ((refine ⟨?_, ?_, ?_, ?_, ?_⟩ <;> (repeat' (first | (with_reducible assumption) | (with_reducible refine Xh ?_ ?_) | (dsimp only;omega) | (simp [go_sem];done) | (with_reducible refine Qk ?_) | (with_reducible refine Qq ?_)))))
    ((go_at_call 39;refine (by_val _ ha am hc).mono ?_;rintro e w8 ⟨bf,rfl,ah,ak,hb⟩;have a8:Hid (At w8 bf 0 (.slice ha am hc)∧w.heap.size+1<bf):=⟨ah,(by first | omega | (simp at ak;omega))⟩;clear ah ak;have ab:At w8 j 0 (.slice x L.length k):=Qa hb ζ;have b7:At w8 j 1 (.map (some y)):=Qa hb ζ;have b8:At w8 j 2 (.map (some z)):=Qa hb ζ;have b9:At w8 j 3 (.slice (Az o) L.length u):=Qa hb ζ;have ba:At w8 j 4 (.slice pa L.length pc):=Qa hb ζ;have ac:At w8 (w.heap.size+1) 0 SN:=Qa hb ζ;have bi:Fn w8 (w.heap.size+1) 0:=(hb.frozen (by dsimp only;first | exact C | (simp;exact C))).trans (by first | exact k0 | (simp [go_sem,k0];done));have bb:At w8 (w.heap.size+1) 1 (.map none):=Qa hb ζ;have bj:Fn w8 (w.heap.size+1) 1:=(hb.frozen (by dsimp only;first | exact C | (simp;exact C))).trans (by first | exact k1 | (simp [go_sem,k1];done));have bc:At w8 (w.heap.size+1) 2 (.map none):=Qa hb ζ;have bm:Fn w8 (w.heap.size+1) 2:=(hb.frozen (by dsimp only;first | exact C | (simp;exact C))).trans (by first | exact k2 | (simp [go_sem,k2];done));have be:At w8 (w.heap.size+1) 3 SN:=Qa hb ζ;have bn:Fn w8 (w.heap.size+1) 3:=(hb.frozen (by dsimp only;first | exact C | (simp;exact C))).trans (by first | exact k3 | (simp [go_sem,k3];done));have bg:At w8 (w.heap.size+1) 4 SN:=Qa hb ζ;have bo:Fn w8 (w.heap.size+1) 4:=(hb.frozen (by dsimp only;first | exact C | (simp;exact C))).trans (by first | exact k4 | (simp [go_sem,k4];done));have hq:Bl B w8:=(by with_reducible (first | exact hb | exact Jb hb | exact Jb (Jb hb)));have aa:=Hd hq;have br:=Bt ac;have bs:=Bt ab;clear hb hq))
   all_goals
    go_wp2;refine bodyPost_ret (v:=.tuple #[.agg #[.slice x L.length k,.map (some y),.map (some z),.slice (Az o) L.length u,.slice pa L.length pc],.func (.func 90) #[] #[.pointer (Az bf)],.bool bh]) (by simp [results,Tryz.results16,go_sem, *]) rfl ?_;refine ofTw_of f.out.2.2 l.out.2.1 (r:=w.heap.size+1) (base:=base) ?_ ?_
    ·have b5:=(l.out.2.2.kept f.out.2.1).kept aa.out;with_reducible repeat' (first | exact b5 | refine PX.set ?_ _ _ | refine PX.dr ?_)
    ·intro ax;obtain ⟨gh,fh,ea,en,hz,az,bp⟩:=HV.out ax
     have b6:HX w8 (w.heap.size+1) bf gh L.length hc fh:=by
      refine ⟨?_,fun i hi=>Qa aa.out (hz i hi).1, ?_, ?_⟩
      ·rw [← ea,← en];exact a8.out.1
      ·have:=a8.out.2;omega
      ·have:=au.out;omega
     refine ⟨gh,hc,fh, ?_,az⟩;with_reducible repeat' (first | exact b6 | refine HX.set ?_ _ _ | refine HX.dr ?_)
 ·have CS:=Hd (fun (V:World)=>spread_len V L.length k y z T u x mp hmn);have ar:=Hd hmn;clear hmn;go_upto_region 5 with (go_at_call 32;refine (CS.out _).mono ?_;rintro e d ⟨rfl,g⟩;have HB4:=Hd (Qc b.out.1 g);clear g)
  clear A q1 q2 x4 zq zx CS;have d0:At d (w.heap.size+1) 0 SN:=Qa HB4.out δ;have d1:At d (w.heap.size+1) 1 (.map none):=Qa HB4.out δ;have d2:At d (w.heap.size+1) 2 (.map none):=Qa HB4.out δ;have d3:At d (w.heap.size+1) 3 SN:=Qa HB4.out δ;have d4:At d (w.heap.size+1) 4 SN:=Qa HB4.out δ;have C:=Bt d0;have k0:Fn d (w.heap.size+1) 0:=(Below.frozen HB4.out ξ).trans δ;have k1:Fn d (w.heap.size+1) 1:=(Below.frozen HB4.out ξ).trans δ;have k2:Fn d (w.heap.size+1) 2:=(Below.frozen HB4.out ξ).trans δ;have k3:Fn d (w.heap.size+1) 3:=(Below.frozen HB4.out ξ).trans δ;have k4:Fn d (w.heap.size+1) 4:=(Below.frozen HB4.out ξ).trans δ;go_wp2;refine bodyPost_ret (v:=.tuple #[.agg #[SN,.map none,.map none,SN,SN],.nilFunc,.bool false]) (by simp [results,Tryz.results16,go_sem, *]) rfl (Or.inl ⟨⟨none,0,0,none,none,none,0,0,none,0,0,_,rfl, ?_,Or.inl rfl⟩,fun h=>ar.out h.1⟩);with_reducible repeat' (first | exact Qc β2 HB4.out | refine Qh ?_ ?_ | refine Qb ?_)
  all_goals (dsimp only;omega)
end Go.Proofs.YtjkjpopghkeibaaGreatDoor
