/- A part of it. -/
import Derived.Test.YtbjmnlefkbhbdaaGreatDoorQlar
import Derived.Test.YtbjmnlefkbhbdaaGreatDoorQlas
set_option maxRecDepth 100000
set_option maxHeartbeats 40000000
namespace Go.Proofs.YtbjmnlefkbhbdaaGreatDoor
open Go.RowKit
variable {w w':World} {a c d e f g g0 g1 g2 g3 g4 n:Value} {b base i j k:Nat} {h:Nat→Int} {pa:Option Addr} {L:List T3} {M:Nat→M6}
def Hg0 (w:World) (bh N:Nat) (h:Nat→Int):Prop := ∃ g c,At w bh 0 (.slice (Az g) N c)∧∀ i,i<N→At w g i (I (h i))
theorem Hg0.kept {a N:Nat} (k:Hg0 w a N h) (hb:Bl w w'):Hg0 w' a N h:=by
 obtain ⟨g,c,h1,h2⟩:=k;exact ⟨g,c,Qa hb h1,fun i hi=>Qa hb (h2 i hi)⟩
theorem Hg0.hg {a N:Nat} (k:Hg0 w a N h):Hg w a N h:=by
 obtain ⟨g,c,h1,h2⟩:=k;exact ⟨g,0,c,h1,fun i hi=>by rw [Nat.zero_add];exact h2 i hi⟩
def HandAt (w0 w:World) (ad:Option Addr) (k ra rk gm:Nat) (pa:Option Addr) (bf:Nat) (L:List T3) (ks:List Int) (nk:Nat) (M:Nat→M6) (h:Nat→Int):Prop:=(∃ base,PK w0 w base ra rk (.slice ad L.length k) L (gix L) (kf ks nk))∧MRow w gm L.length M∧TRow w pa (pls L M L.length)∧Hg0 w bf L.length h
theorem HandAt.kept {i:World} {a:Option Addr} {f g c:Nat} {d:List Int} {e:Nat} (H:HandAt i w a k f g c pa b L d e M h) (hb:Bl w w'):HandAt i w' a k f g c pa b L d e M h:=by
 obtain ⟨⟨base,h1⟩,h2,h3,h4⟩:=H;exact ⟨⟨base,h1.kept hb⟩,h2.kept hb,h3.kept hb,h4.kept hb⟩
theorem HandAt.pile {j:World} {a:Option Addr} {e f:Nat} {g:Nat} {c:List Int} {d:Nat} (H:HandAt j w a k e f b pa g L c d M h) (i pc:Nat):PileAt w a k e f b i pa pc L (kdn c d) M:=by
 obtain ⟨⟨base,h1⟩,h2,h3,h4⟩:=H;exact ⟨h1.pa,h1.kl,h2,h3⟩
theorem HandAt.box {d b:World} {r:Nat} {f:Option Addr} {t u l:Nat} {o:List Int} {p:Nat} (H:HandAt b w f k t u l pa j L o p M h) (h0:0<L.length) (v:Bl d b) (hg:w.grownBy w' (some r)) (h1:d.heap.size≤r) (h2:r<b.heap.size) (a:w.cell? ⟨r,0,none⟩=some SN):HandAt d w' f k t u l pa j L o p M h:=by
 obtain ⟨⟨base,hp⟩,m,n,g,c,q,s⟩:=H;have x:=hp.2.2.2.1;refine ⟨⟨base,(hp.base v).grown hg h1 γ γ γ⟩,m.grown hg (m.not_at h0 a),n.grown hg (n.not_at (by simpa [pls] using h0) a),g,c,hg.cell q (fun e=>?_),fun i hi=>hg.cell (s i hi) (fun e=>?_)⟩
 ·cases e;(try simp only at a);rw [q] at a
  simp at a
 ·cases e;have:=s 0 h0;(try simp only [At,I] at this);rw [a] at this
  cases this
def OfTw (w w':World) (ks:List Int) (nk:Nat) (L:List T3) (mn:Nat) (M:Nat→M6) (S:List (T3×List T3)) (e:Ending):Prop:=(OfNf w w' e∧¬ SOk (kdn ks nk) L mn M S)∨(SOk (kdn ks nk) L mn M S∧∃ ad k ra rk gm cm pa pc bf h,e=.returned (.tuple #[.agg #[.slice ad L.length k,.map (some ra),.map (some rk),.slice (Az gm) L.length cm,.slice pa L.length pc],ABv bf,.bool true])∧HandAt w w' ad k ra rk gm pa bf L ks nk M h∧Lv S L h S.length 0∧Bl w w')
theorem ofTw_of {r l e:Nat} {d:Option Addr} {o pc a:Nat} {f:List Int} {S:List (T3×List T3)} {b:Bool} (h1:b=true↔StOk L (plF (pls L M L.length)) S) (h2:MOk (kdn f i) L M) (hp:PX w w' r base j l e d pa k L M f i) (p:b=true→∃ g m h,HX w' r a g L.length m h∧Lv S L h S.length 0):OfTw w w' f i L L.length M S (.returned (.tuple #[.agg #[.slice d L.length k,.map (some j),.map (some l),.slice (Az e) L.length o,.slice pa L.length pc],.func (.func 87) #[] #[.pointer (Az a)],.bool b])):=by
 have hb:Bl w w':=hp.pk.2.2.2.2
 cases b
 ·exact Or.inl ⟨⟨_,_,_,_,_,_,_,_,_,_,_,_,rfl,hb,Or.inr ⟨a,rfl⟩⟩,fun h=>by have:=h1.2 h.2.2;cases this⟩
 ·obtain ⟨g,m,h,n,hl⟩:=p rfl;exact Or.inr ⟨⟨rfl,h2,h1.1 rfl⟩,d,k,j,l,e,o,pa,pc,a,h,rfl,⟨⟨_,hp.pk⟩,hp.mr,hp.tr,⟨_,_,n.c,n.z⟩⟩,hl,hb⟩
theorem of_yesw (W H:Int) (a c mp K:Option Addr) (zl X n Y U x Q:Nat) (w:World) (Z:List Int) (nk:Nat) (L:List T3) (M:Nat→M6) (S:List (T3×List T3)) (hs:Steps w)
  (CL:Hid (∀ V:World,Bl w V→Cl 20 #[.agg #[I W,I H,.slice a zl X,.slice c n Y]] V fun e w'=>∃ y k base z A,e=.returned (.tuple #[.agg #[.slice y L.length k,.map (some z),.map (some A)],.bool true])∧PK V w' base z A (.slice y L.length k) L (gix L) (kf Z nk)))
  (hM:0<U→∃ p,mp=Az p∧MRow w p U M) (hS:SRow w K S) (aq:L.Pairwise ltT) (h0:0<L.length) (hL:L.length≤300) (af:∀ t∈L,(0≤t.1∧t.1≤8)∧(0≤t.2.1∧t.2.1≤8)∧(0≤t.2.2∧t.2.2≤3)) (aw:S.length≤17592186044416) (ae:∀ s∈S,s.2.length≤17592186044416) :
  Cl 15 #[.agg #[I W,I H,.slice a zl X,.slice c n Y,.slice mp U x,.slice K S.length Q]] w fun e w'=>OfTw w w' Z nk L U M S e:=by
 have HS:Hid (Steps w∧SRow w K S∧L.Pairwise ltT∧(∀ t∈L,(0≤t.1∧t.1≤8)∧(0≤t.2.1∧t.2.1≤8)∧(0≤t.2.2∧t.2.2≤3))∧∀ s∈S,s.2.length≤17592186044416):=⟨hs,hS,aq,af,ae⟩;have HM:=Hd hM;clear hs hS aq af ae hM;go_enter Tryz.func15,Tryz.ntmps15;go_upto_region 4 with (go_at_call 20;refine (CL.out _ Ψ).mono ?_;rintro e w2 ⟨y,k,base,z,A,rfl,ap⟩;have N:=Hd ap;clear ap)
 refine Qj (fun W3 E=>?_);obtain ⟨G,hG⟩:∃ G,G=w2.heap.size:=⟨_,rfl⟩
 have O:Bl w2 W3:=by
  rw [E];with_reducible repeat (first | exact Qd _ | refine Qc ?_ | refine Qk ?_ ?_)
  all_goals (dsimp only;omega)
 have B:At W3 G 0 (.slice y L.length k):=by rw [E,hG];simp [go_sem]
 have q1:At W3 G 1 (.map (some z)):=by rw [E,hG];simp [go_sem]
 have q2:At W3 G 2 (.map (some A)):=by rw [E,hG];simp [go_sem]
 rw [← hG];have b:=H3 (Qb N.out.2.2.2.2 O) (N.out.kept O) (Qb β2 (Qb N.out.2.2.2.2 O));clear E hG O N;have x4:At W3 w.heap.size 4 (.slice mp U x):=Qa b.out.1 ζ;have zq:=Bt B;have zx:=Bt x4;by_cases hmn:U=L.length
 ·obtain ⟨p,rfl,F⟩:=HM.out γ;subst hmn;have CS:=Hd (fun (V:World) P=>Vj V k z A p x y L (kdn Z nk) M (HS.out.1.kept (Qb b.out.2.2 P)) (b.out.2.1.pa.kept P) (b.out.2.1.kl.kept P) hL HS.out.2.2.2.1 (F.kept (Qb b.out.2.2 P)));clear HM;go_upto_region 5 with (go_at_call 39;refine (CS.out _ (Qd _)).mono ?_;rintro e d h4;have H4:=Hd h4;clear h4;rcases H4.out with ⟨z0,k0,d0,m1,m2,z3,k3,d3,z4,k4,d4,rfl,an,g⟩ | ⟨pa,pc,rfl,ao,R,g⟩)
  ·have HB4:Hid (Below ((w.alloc (.cells #[I W,I H,.slice a zl X,.slice c n Y,.slice (Az p) L.length x,.slice K S.length Q] 30)).alloc (.cells #[SN,.map none,.map none,SN,SN] 67)).heap.size ((w.alloc (.cells #[I W,I H,.slice a zl X,.slice c n Y,.slice (Az p) L.length x,.slice K S.length Q] 30)).alloc (.cells #[SN,.map none,.map none,SN,SN] 67)) d∧¬ MOk (kdn Z nk) L M):=⟨Qb b.out.1 g,an⟩;clear an g B q1 q2 x4 zq zx H4 CS F;have e0:At d (w.heap.size+1) 0 SN:=Qa HB4.out.1 ζ;have e1:At d (w.heap.size+1) 1 (.map none):=Qa HB4.out.1 ζ;have e2:At d (w.heap.size+1) 2 (.map none):=Qa HB4.out.1 ζ;have e3:At d (w.heap.size+1) 3 SN:=Qa HB4.out.1 ζ;have e4:At d (w.heap.size+1) 4 SN:=Qa HB4.out.1 ζ;have D:=Bt e0;have f0:Fn d (w.heap.size+1) 0:=(Below.frozen HB4.out.1 ν).trans ζ;have f1:Fn d (w.heap.size+1) 1:=(Below.frozen HB4.out.1 ν).trans ζ;have f2:Fn d (w.heap.size+1) 2:=(Below.frozen HB4.out.1 ν).trans ζ;have f3:Fn d (w.heap.size+1) 3:=(Below.frozen HB4.out.1 ν).trans ζ;have f4:Fn d (w.heap.size+1) 4:=(Below.frozen HB4.out.1 ν).trans ζ;go_wp2;refine bodyPost_ret (v:=.tuple #[.agg #[SN,.map none,.map none,SN,SN],.nilFunc,.bool false]) (by simp [results,Tryz.results15,go_sem, *]) rfl (Or.inl ⟨⟨none,0,0,none,none,none,0,0,none,0,0,_,rfl, ?_,Or.inl rfl⟩,fun h=>HB4.out.2 h.2.1⟩);with_reducible repeat' (first | exact Qb β2 HB4.out.1 | refine Qk ?_ ?_ | refine Qc ?_)
   all_goals (dsimp only;omega)
  ·have ai:At d (w.heap.size+1) 0 SN:=Qa (Qb b.out.1 g) ζ
   have HB4:Hid (Below ((w.alloc (.cells #[I W,I H,.slice a zl X,.slice c n Y,.slice (Az p) L.length x,.slice K S.length Q] 30)).alloc (.cells #[SN,.map none,.map none,SN,SN] 67)).heap.size ((w.alloc (.cells #[I W,I H,.slice a zl X,.slice c n Y,.slice (Az p) L.length x,.slice K S.length Q] 30)).alloc (.cells #[SN,.map none,.map none,SN,SN] 67)) d∧MOk (kdn Z nk) L M∧PX w d (w.heap.size+1) base z A p y pa k L M Z nk):=by
    obtain ⟨_,_,_,⟨a1,a2,a3,a4,a5,a6,a7⟩,_⟩:=b.out.2.1;simp only [World.size_alloc] at a1 a2 a3 a4 a5 a6 a7;have ay:=bk (F 0 h0).1.1;dsimp only at ay;exact ⟨Qb b.out.1 g,ao,(b.out.2.1.base β2).kept g,(F.kept b.out.2.2).kept g,R,γ,γ,γ,γ,γ,R.not_at (by rw [Qu];exact h0) ai⟩
   clear ai;clear ao R g B q1 q2 x4 zq zx H4 CS b F;go_upto_region 7 with fail
   refine Qj (fun J u=>?_);obtain ⟨l,q⟩:∃ G,G=d.heap.size:=⟨_,rfl⟩
   have T:Bl d J:=by
    rw [u];with_reducible repeat (first | exact Qd _ | refine Qc ?_ | refine Qk ?_ ?_)
    all_goals (dsimp only;omega)
   have B:At J l 0 (.slice y L.length k):=by rw [u,q];simp [go_sem]
   have q1:At J l 1 (.map (some z)):=by rw [u,q];simp [go_sem]
   have q2:At J l 2 (.map (some A)):=by rw [u,q];simp [go_sem]
   have q3:At J l 3 (.slice (Az p) L.length x):=by rw [u,q];simp [go_sem]
   have q4:At J l 4 (.slice pa L.length pc):=by rw [u,q];simp [go_sem]
   rw [← q];have m:=H3 (Qb HB4.out.1 T) HB4.out.2.1 (HB4.out.2.2.kept T);clear u q T HB4;have x5:At J w.heap.size 5 (.slice K S.length Q):=Qa m.out.1 ζ;have zq:=Bt B;have zx:=Bt x5;have CH:Hid (∀ V:World,Bl J V→Cl 40 #[.agg #[.slice y L.length k,.map (some z),.map (some A),.slice (Az p) L.length x,.slice pa L.length pc],.slice K S.length Q] V fun e w'=>HgTv L (pls L M L.length) S V w' e):=fun V P=>heights_lv V L.length k pc Q z A p x y pa K L (pls L M L.length) S (m.out.2.2.pk.pa.1.kept P) (m.out.2.2.tr.kept P) (HS.out.2.1.kept (Qb m.out.2.2.pk.2.2.2.2 P)) rfl (Qu _ _ _) HS.out.2.2.1 h0 hL aw HS.out.2.2.2.2
   have au:Hid (w.heap.size+1<J.heap.size):=by
    have av:w.heap.size+1<J.heap.size:=by
     have:=m.out.1.size;simp only [World.size_alloc] at this;omega
    exact av
   go_upto_region 8 with (go_at_call 40;go_loud (refine (CH.out _ (Qd _)).mono ?_;rintro e C ⟨ha,am,hc,bh,rfl,ag,o,aj⟩;have HV:=Hd aj;clear aj;have f:=H3 (Qb m.out.1 o) o ag;replace B:=Qa o B;replace q1:=Qa o q1;replace q2:=Qa o q2;replace q3:=Qa o q3;replace q4:=Qa o q4;clear o ag))
   clear x5 zx CH;replace zq:l<C.heap.size:=bk B;have d0:At C (w.heap.size+1) 0 SN:=Qa f.out.1 ζ;have d1:At C (w.heap.size+1) 1 (.map none):=Qa f.out.1 ζ;have d2:At C (w.heap.size+1) 2 (.map none):=Qa f.out.1 ζ;have d3:At C (w.heap.size+1) 3 SN:=Qa f.out.1 ζ;have d4:At C (w.heap.size+1) 4 SN:=Qa f.out.1 ζ;have D:=Bt d0;have k0:Fn C (w.heap.size+1) 0:=(Below.frozen f.out.1 ν).trans ζ;have k1:Fn C (w.heap.size+1) 1:=(Below.frozen f.out.1 ν).trans ζ;have k2:Fn C (w.heap.size+1) 2:=(Below.frozen f.out.1 ν).trans ζ;have k3:Fn C (w.heap.size+1) 3:=(Below.frozen f.out.1 ν).trans ζ;have k4:Fn C (w.heap.size+1) 4:=(Below.frozen f.out.1 ν).trans ζ
   have bq:l≠w.heap.size+1:=by
    intro e;rw [e] at B;rw [d0] at B;simp only [Option.some.injEq,Value.slice.injEq] at B;omega
   go_region_held3 (fun w'=>At w' l 0 (.slice y L.length k)∧At w' l 1 (.map (some z))∧At w' l 2 (.map (some A))∧At w' l 3 (.slice (Az p) L.length x)∧At w' l 4 (.slice pa L.length pc))
    ((refine ⟨?_, ?_, ?_, ?_, ?_⟩ <;> (repeat' (first | (with_reducible assumption) | (with_reducible refine Jt ?_ ?_) | (dsimp only;omega) | (simp [go_sem];done) | (with_reducible refine Ql ?_) | (with_reducible refine Qi ?_)))))
    ((go_at_call 41;refine (by_val _ ha am hc).mono ?_;rintro e j ⟨bf,rfl,ah,ak,hb⟩;have a8:Hid (At j bf 0 (.slice ha am hc)∧w.heap.size+1<bf):=⟨ah,(by first | omega | (simp at ak;omega))⟩;clear ah ak;have ab:At j l 0 (.slice y L.length k):=Qa hb δ;have b7:At j l 1 (.map (some z)):=Qa hb δ;have b8:At j l 2 (.map (some A)):=Qa hb δ;have b9:At j l 3 (.slice (Az p) L.length x):=Qa hb δ;have ba:At j l 4 (.slice pa L.length pc):=Qa hb δ;have ac:At j (w.heap.size+1) 0 SN:=Qa hb δ;have bi:Fn j (w.heap.size+1) 0:=(hb.frozen (by dsimp only;first | exact D | (simp;exact D))).trans (by first | exact k0 | (simp [go_sem,k0];done));have bb:At j (w.heap.size+1) 1 (.map none):=Qa hb δ;have bj:Fn j (w.heap.size+1) 1:=(hb.frozen (by dsimp only;first | exact D | (simp;exact D))).trans (by first | exact k1 | (simp [go_sem,k1];done));have bc:At j (w.heap.size+1) 2 (.map none):=Qa hb δ;have bm:Fn j (w.heap.size+1) 2:=(hb.frozen (by dsimp only;first | exact D | (simp;exact D))).trans (by first | exact k2 | (simp [go_sem,k2];done));have be:At j (w.heap.size+1) 3 SN:=Qa hb δ;have bn:Fn j (w.heap.size+1) 3:=(hb.frozen (by dsimp only;first | exact D | (simp;exact D))).trans (by first | exact k3 | (simp [go_sem,k3];done));have bg:At j (w.heap.size+1) 4 SN:=Qa hb δ;have bo:Fn j (w.heap.size+1) 4:=(hb.frozen (by dsimp only;first | exact D | (simp;exact D))).trans (by first | exact k4 | (simp [go_sem,k4];done));have hq:Bl C j:=(by with_reducible (first | exact hb | exact Qw hb | exact Qw (Qw hb)));have aa:=Hd hq;have br:=Bt ac;have bs:=Bt ab;clear hb hq))
   all_goals
    go_wp2;refine bodyPost_ret (v:=.tuple #[.agg #[.slice y L.length k,.map (some z),.map (some A),.slice (Az p) L.length x,.slice pa L.length pc],.func (.func 87) #[] #[.pointer (Az bf)],.bool bh]) (by simp [results,Tryz.results15,go_sem, *]) rfl ?_;refine ofTw_of f.out.2.2 m.out.2.1 (r:=w.heap.size+1) (base:=base) ?_ ?_
    ·have b5:=(m.out.2.2.kept f.out.2.1).kept aa.out;with_reducible repeat' (first | exact b5 | refine PX.set ?_ _ _ | refine PX.dr ?_)
    ·intro ax;obtain ⟨gh,fh,ea,en,hz,az,bp⟩:=HV.out ax
     have b6:HX j (w.heap.size+1) bf gh L.length hc fh:=by
      refine ⟨?_,fun i hi=>Qa aa.out (hz i hi).1, ?_, ?_⟩
      ·rw [← ea,← en];exact a8.out.1
      ·have:=a8.out.2;omega
      ·have:=au.out;omega
     refine ⟨gh,hc,fh, ?_,az⟩;with_reducible repeat' (first | exact b6 | refine HX.set ?_ _ _ | refine HX.dr ?_)
 ·have CS:=Hd (fun (V:World)=>spread_len V L.length k z A U x y mp hmn);have ar:=Hd hmn;clear hmn;go_upto_region 5 with (go_at_call 39;refine (CS.out _).mono ?_;rintro e d ⟨rfl,g⟩;have HB4:=Hd (Qb b.out.1 g);clear g)
  clear B q1 q2 x4 zq zx CS;have d0:At d (w.heap.size+1) 0 SN:=Qa HB4.out ζ;have d1:At d (w.heap.size+1) 1 (.map none):=Qa HB4.out ζ;have d2:At d (w.heap.size+1) 2 (.map none):=Qa HB4.out ζ;have d3:At d (w.heap.size+1) 3 SN:=Qa HB4.out ζ;have d4:At d (w.heap.size+1) 4 SN:=Qa HB4.out ζ;have D:=Bt d0;have k0:Fn d (w.heap.size+1) 0:=(Below.frozen HB4.out ν).trans ζ;have k1:Fn d (w.heap.size+1) 1:=(Below.frozen HB4.out ν).trans ζ;have k2:Fn d (w.heap.size+1) 2:=(Below.frozen HB4.out ν).trans ζ;have k3:Fn d (w.heap.size+1) 3:=(Below.frozen HB4.out ν).trans ζ;have k4:Fn d (w.heap.size+1) 4:=(Below.frozen HB4.out ν).trans ζ;go_wp2;refine bodyPost_ret (v:=.tuple #[.agg #[SN,.map none,.map none,SN,SN],.nilFunc,.bool false]) (by simp [results,Tryz.results15,go_sem, *]) rfl (Or.inl ⟨⟨none,0,0,none,none,none,0,0,none,0,0,_,rfl, ?_,Or.inl rfl⟩,fun h=>ar.out h.1⟩);with_reducible repeat' (first | exact Qb β2 HB4.out | refine Qk ?_ ?_ | refine Qc ?_)
  all_goals (dsimp only;omega)
open Go.ChangeMaps
def FB15 (w:World) (z:Nat) (f0 f1 f2 f3 f4 f5 f6 f7 f8 f9 f10 f11 f12 f13 f14:Value):Prop:=HB15 w z f0 f1 f2 f3 f4 f5 f6 f7 f8 f9 f10 f11 f12 f13 f14∧(Fn w z 0∧Fn w z 1∧Fn w z 2∧Fn w z 3∧Fn w z 4∧Fn w z 5∧Fn w z 6∧Fn w z 7∧Fn w z 8∧Fn w z 9∧Fn w z 10∧Fn w z 11∧Fn w z 12∧Fn w z 13∧Fn w z 14)
theorem FB15.kept {z:Nat} {f0 f1 f2 f3 f4 p f6 q r s b f14:Value} (h:FB15 w z f0 f1 f2 f3 f4 p f6 q r s a b c d f14) (hb:Bl w w'):FB15 w' z f0 f1 f2 f3 f4 p f6 q r s a b c d f14:=by
 refine ⟨h.1.kept hb, ?_⟩;obtain ⟨⟨h0,h1,h2,h3,h4,h5,h6,t,u,v,e,f,g,i,j⟩,k0,k1,k2,k3,x,y,A,B,C,D,k,l,m,n,o⟩:=h;exact ⟨Qf hb h0 k0,Qf hb h1 k1,Qf hb h2 k2,Qf hb h3 k3,Qf hb h4 x,Qf hb h5 y,Qf hb h6 A,Qf hb t B,Qf hb u C,Qf hb v D,Qf hb e k,Qf hb f l,Qf hb g m,Qf hb i n,Qf hb j o⟩
def set15 (w:World) (b:Nat) (f0 f1 f2 f3 f4 f5 f6 f7 f8 f9 f10 f11 f12 f13 f14:Value):World:=((((((((((((((w.setCell ⟨b,0,none⟩ f0).setCell ⟨b,1,none⟩ f1).setCell ⟨b,2,none⟩ f2).setCell ⟨b,3,none⟩ f3).setCell ⟨b,4,none⟩ f4).setCell ⟨b,5,none⟩ f5).setCell ⟨b,6,none⟩ f6).setCell ⟨b,7,none⟩ f7).setCell ⟨b,8,none⟩ f8).setCell ⟨b,9,none⟩ f9).setCell ⟨b,10,none⟩ f10).setCell ⟨b,11,none⟩ f11).setCell ⟨b,12,none⟩ f12).setCell ⟨b,13,none⟩ f13).setCell ⟨b,14,none⟩ f14
theorem Qp {w1 c:World} (h1:w.grownBy w1 (some b)) (h2:w1.grownBy c (some b)):w.grownBy c (some b):=by
 obtain ⟨a1,d,a3,a4,a5⟩:=h1;obtain ⟨b1,b2,b3,b4,e⟩:=h2;exact ⟨by rw [b1,a1],by rw [b2,d],by rw [b3,a3],Nt a4 b4,fun k f a=>(e k γ a).trans (a5 k f a)⟩
theorem Kt (w:World) (b:Nat) (f0 f1 f2 f3 f4 f f6 g h i a c d e f14:Value):w.grownBy (set15 w b f0 f1 f2 f3 f4 f f6 g h i a c d e f14) (some b):=by
 unfold set15;exact Qp (Qp (Qp (Qp (Qp (Qp (Qp (Qp (Qp (Qp (Qp (Qp (Qp (Qp (Qg _ _ _ _) (Qg _ _ _ _)) (Qg _ _ _ _)) (Qg _ _ _ _)) (Qg _ _ _ _)) (Qg _ _ _ _)) (Qg _ _ _ _)) (Qg _ _ _ _)) (Qg _ _ _ _)) (Qg _ _ _ _)) (Qg _ _ _ _)) (Qg _ _ _ _)) (Qg _ _ _ _)) (Qg _ _ _ _)) (Qg _ _ _ _)
theorem HB15.set15 {f0 f1 f2 f3 f4 l f6 m o f14 g5 g6 g7 g8 g9 g10 g11 g12 g13 g14:Value} (h:HB15 w b f0 f1 f2 f3 f4 l f6 m n o a c d e f14):HB15 (set15 w b g0 g1 g2 g3 g4 g5 g6 g7 g8 g9 g10 g11 g12 g13 g14) b g0 g1 g2 g3 g4 g5 g6 g7 g8 g9 g10 g11 g12 g13 g14:=by
 obtain ⟨h0,h1,h2,h3,h4,h5,h6,p,q,r,f,g,i,j,k⟩:=h;unfold Proofs.YtbjmnlefkbhbdaaGreatDoor.set15;refine ⟨?_, ?_, ?_, ?_, ?_, ?_, ?_, ?_, ?_, ?_, ?_, ?_, ?_, ?_, ?_⟩
 ·simp [go_sem,h0]
 ·simp [go_sem,h1]
 ·simp [go_sem,h2]
 ·simp [go_sem,h3]
 ·simp [go_sem,h4]
 ·simp [go_sem,h5]
 ·simp [go_sem,h6]
 ·simp [go_sem,p]
 ·simp [go_sem,q]
 ·simp [go_sem,r]
 ·simp [go_sem,f]
 ·simp [go_sem,g]
 ·simp [go_sem,i]
 ·simp [go_sem,j]
 ·simp [go_sem,k]
def TkB (w wx:World) (s0 s1 s2 s3 s4 s5 d0 d1 d2 d3 d4 d5 d6 d7:Value):Prop:=(At wx w.heap.size 0 (s0)∧At wx w.heap.size 1 (s1)∧At wx w.heap.size 2 (s2)∧At wx w.heap.size 3 (s3)∧At wx w.heap.size 4 (s4)∧At wx w.heap.size 5 (s5))∧(At wx (w.heap.size+1) 0 (d0)∧At wx (w.heap.size+1) 1 (d1)∧At wx (w.heap.size+1) 2 (d2)∧At wx (w.heap.size+1) 3 (d3)∧At wx (w.heap.size+1) 4 (d4)∧At wx (w.heap.size+1) 5 (d5)∧At wx (w.heap.size+1) 6 (d6)∧At wx (w.heap.size+1) 7 (d7))∧FB15 wx (w.heap.size+1+1) SN (.map none) (.map none) SN SN (.nilFunc) (I 0) (I 0) (I 0) (.bool false) (I 0) (I 0) (I 0) (I 0) SN∧Bl w wx
theorem TkB.kept {j k:World} {i d0 d1 d2 d3 d4 d5 b:Value} (h:TkB w j c d e f g i d0 d1 d2 d3 d4 d5 a b) (hb:Bl j k):TkB w k c d e f g i d0 d1 d2 d3 d4 d5 a b:=by
 obtain ⟨⟨a0,a1,l,a3,a4,a5⟩,⟨b0,b1,b2,b3,b4,m,n,o⟩,q,p⟩:=h;exact ⟨⟨Qa hb a0,Qa hb a1,Qa hb l,Qa hb a3,Qa hb a4,Qa hb a5⟩,⟨Qa hb b0,Qa hb b1,Qa hb b2,Qa hb b3,Qa hb b4,Qa hb m,Qa hb n,Qa hb o⟩,q.kept hb,Qb p hb⟩
def TakTo (w w':World) (L:List T3) (ks:List Int) (nk:Nat) (M:Nat→M6) (h:Nat→Int) (mw:Nat→Bool) (wy c sd:Int) (ov:Bool) (ly ax ay ak:Int) (e:Ending):Prop := ∃ ad k ra rk gm cm pa pc bf gv,e=.returned (.tuple #[.agg #[.slice ad L.length k,.map (some ra),.map (some rk),.slice (Az gm) L.length cm,.slice pa L.length pc,.func (.func 87) #[] #[.pointer (Az bf)],I wy,I c,I sd,.bool ov,I ly,I ax,I ay,I ak,.slice (Az gv) L.length L.length],I 0])∧HandAt w w' ad k ra rk gm pa bf L ks nk M h∧YRow w' gv L.length mw∧w.heap.size≤gv∧Bl w w'
theorem mt_on0 {x z y F v:World} {N6 Nt H1 H2:Nat} {t u:Value} {D:MD} (a:Ow w base n c f d D) (H:Sam w x (fun k=>n.ownBlock=some k)) (N:x.ownsRow base 3 1 t (D.a0.length+1) (nV D.a0 ++ [I (i:Int)])) (hl:∀ g,t.ownBlock=some g→n.ownBlock=some g∨g=H1) (G:Sam x z (fun k=>k=N6))
  (r:Sam z y (fun k=>f.ownBlock=some k)) (A:y.ownsRow base 3 1 u (D.a1.length+1) (nV D.a1 ++ [I (j:Int)])) (l:∀ g,u.ownBlock=some g→f.ownBlock=some g∨g=H2) (p:Sam y F (fun k=>k=N6)) (J:Sam F v (fun k=>k=Nt)) (h6:w.heap.size≤N6) (Q:w.heap.size≤Nt) (P:N6<H1) (K:Nt<H1) (L:H1<H2) (hb:Below base w v) :
  MtTo w v base n c f d ⟨D.a0 ++ [i],D.b0,D.a1 ++ [j],D.b1⟩ (.returned (.agg #[t,c,u,d])):=by
 have m:∀ g,t.ownBlock=some g→g<w.heap.size∨g=H1:=fun g e=>(hl g e).imp (fun h=>(a.o0.lt g h).2) id;have B:∀ g,u.ownBlock=some g→g<w.heap.size∨g=H2:=fun g e=>(l g e).imp (fun h=>(a.o2.lt g h).2) id
 have E:∀ g,t.ownBlock=some g→f.ownBlock≠some g:=fun g e q=>by
  rcases hl g e with h | h
  ·exact a.d0 g h q
  ·have:=(a.o2.lt g q).2;omega
 have a1:Ow x base t c f d ⟨D.a0 ++ [i],D.b0,D.a1,D.b1⟩:=Ow.put0 a H (Ji a.o1 a.o0 τ) (fun g e q=>a.d0 g q e) (Ji a.o3 a.o0 τ) (by rw [List.length_append,Zl];exact N) E
 have C:∀ k,mtB t c f d k→k<w.heap.size∨k=H1:=fun k b=>by
  rcases b with e | e | e | e
  ·exact m k e
  ·exact Or.inl (a.o1.lt k e).2
  ·exact Or.inl (a.o2.lt k e).2
  ·exact Or.inl (a.o3.lt k e).2
 have o:Ow z base t c f d ⟨D.a0 ++ [i],D.b0,D.a1,D.b1⟩:=a1.sam G fun k b e=>by have:=C k b;omega
 have O:∀ g,u.ownBlock=some g→t.ownBlock≠some g:=fun g e q=>by
  rcases l g e with h | h
  ·exact E g q h
  ·have:=m g q;omega
 have a3:Ow y base t c u d ⟨D.a0 ++ [i],D.b0,D.a1 ++ [j],D.b1⟩:=Ow.put2 o r (E) (Ji o.o1 o.o2 τ) (Ji o.o3 o.o2 τ) (by rw [List.length_append,Zl];exact A) O
 have s:∀ k,mtB t c u d k→k<w.heap.size∨k=H1∨k=H2:=fun k b=>by
  rcases b with e | e | e | e
  ·exact (m k e).imp id Or.inl
  ·exact Or.inl (a.o1.lt k e).2
  ·exact (B k e).imp id Or.inr
  ·exact Or.inl (a.o3.lt k e).2
 have a4:Ow v base t c u d ⟨D.a0 ++ [i],D.b0,D.a1 ++ [j],D.b1⟩:=(a3.sam p fun k b e=>by have:=s k b;omega).sam J fun k b e=>by have:=s k b;omega
 have M:Sam w v (mtB n c f d):=((((H.mono fun k _ e=>(Or.inl e:mtB n c f d k)).then G fun k b e=>by omega).then r fun k _ e=>Or.inr (Or.inr (Or.inl e))).then p fun k b e=>by omega).then J fun k b e=>by omega
 refine ⟨_,_,_,_,rfl,a4,M,fun k b=>?_,hb⟩;rcases b with e | e | e | e
 ·exact (hl k e).imp (fun e=>Or.inl e) (fun h=>by omega)
 ·exact Or.inl (Or.inr (Or.inl e))
 ·exact (l k e).imp (fun e=>Or.inr (Or.inr (Or.inl e))) (fun h=>by omega)
 ·exact Or.inl (Or.inr (Or.inr (Or.inr e)))
theorem mt_on2 {x z y F v:World} {N6 Nt H1 H2:Nat} {t u:Value} {D:MD} (a:Ow w base f c n d D) (H:Sam w x (fun k=>n.ownBlock=some k)) (N:x.ownsRow base 3 1 t (D.a1.length+1) (nV D.a1 ++ [I (i:Int)])) (hl:∀ g,t.ownBlock=some g→n.ownBlock=some g∨g=H1) (G:Sam x z (fun k=>k=N6))
  (r:Sam z y (fun k=>f.ownBlock=some k)) (A:y.ownsRow base 3 1 u (D.a0.length+1) (nV D.a0 ++ [I (j:Int)])) (l:∀ g,u.ownBlock=some g→f.ownBlock=some g∨g=H2) (p:Sam y F (fun k=>k=N6)) (J:Sam F v (fun k=>k=Nt)) (h6:w.heap.size≤N6) (Q:w.heap.size≤Nt) (P:N6<H1) (K:Nt<H1) (L:H1<H2) (hb:Below base w v) :
  MtTo w v base f c n d ⟨D.a0 ++ [j],D.b0,D.a1 ++ [i],D.b1⟩ (.returned (.agg #[u,c,t,d])):=by
 have m:∀ g,t.ownBlock=some g→g<w.heap.size∨g=H1:=fun g e=>(hl g e).imp (fun h=>(a.o2.lt g h).2) id;have B:∀ g,u.ownBlock=some g→g<w.heap.size∨g=H2:=fun g e=>(l g e).imp (fun h=>(a.o0.lt g h).2) id
 have E:∀ g,t.ownBlock=some g→f.ownBlock≠some g:=fun g e q=>by
  rcases hl g e with h | h
  ·exact a.d0 g q h
  ·have:=(a.o0.lt g q).2;omega
 have a1:Ow x base f c t d ⟨D.a0,D.b0,D.a1 ++ [i],D.b1⟩:=Ow.put2 a H (fun g e q=>a.d0 g e q) (Ji a.o1 a.o2 τ) (Ji a.o3 a.o2 τ) (by rw [List.length_append,Zl];exact N) E
 have C:∀ k,mtB f c t d k→k<w.heap.size∨k=H1:=fun k b=>by
  rcases b with e | e | e | e
  ·exact Or.inl (a.o0.lt k e).2
  ·exact Or.inl (a.o1.lt k e).2
  ·exact m k e
  ·exact Or.inl (a.o3.lt k e).2
 have o:Ow z base f c t d ⟨D.a0,D.b0,D.a1 ++ [i],D.b1⟩:=a1.sam G fun k b e=>by have:=C k b;omega
 have O:∀ g,u.ownBlock=some g→t.ownBlock≠some g:=fun g e q=>by
  rcases l g e with h | h
  ·exact E g q h
  ·have:=m g q;omega
 have a3:Ow y base u c t d ⟨D.a0 ++ [j],D.b0,D.a1 ++ [i],D.b1⟩:=Ow.put0 o r (Ji o.o1 o.o0 τ) (E) (Ji o.o3 o.o0 τ) (by rw [List.length_append,Zl];exact A) O
 have s:∀ k,mtB u c t d k→k<w.heap.size∨k=H1∨k=H2:=fun k b=>by
  rcases b with e | e | e | e
  ·exact (B k e).imp id Or.inr
  ·exact Or.inl (a.o1.lt k e).2
  ·exact (m k e).imp id Or.inl
  ·exact Or.inl (a.o3.lt k e).2
 have a4:Ow v base u c t d ⟨D.a0 ++ [j],D.b0,D.a1 ++ [i],D.b1⟩:=(a3.sam p fun k b e=>by have:=s k b;omega).sam J fun k b e=>by have:=s k b;omega
 have M:Sam w v (mtB f c n d):=((((H.mono fun k _ e=>(Or.inr (Or.inr (Or.inl e)):mtB f c n d k)).then G fun k b e=>by omega).then r fun k _ e=>Or.inl e).then p fun k b e=>by omega).then J fun k b e=>by omega
 refine ⟨_,_,_,_,rfl,a4,M,fun k b=>?_,hb⟩;rcases b with e | e | e | e
 ·exact (l k e).imp (fun e=>Or.inl e) (fun h=>by omega)
 ·exact Or.inl (Or.inr (Or.inl e))
 ·exact (hl k e).imp (fun e=>Or.inr (Or.inr (Or.inl e))) (fun h=>by omega)
 ·exact Or.inl (Or.inr (Or.inr (Or.inr e)))
theorem inf271:(Tryz.prog.info? 257).map (fun i=>(i.zero,i.size,i.bytes))=some (some (.agg #[I 0,I 0]),2,16):=μ
theorem Ui (w:World) (T:TypeId) (a b:Int):∀ j u,([I a,I b])[j]?=some u→(w.alloc (.cells #[I a,I b] T)).cell? ((⟨w.heap.size,0,none⟩:Addr).add j)=some u:=by
 intro j u c;match j with
 | 0=>simp at c;subst c;simp [go_sem,Addr.add]
 | 1=>simp at c;subst c;simp [go_sem,Addr.add]
 | j+2=>simp at c
theorem two_one (a b:Int):∀ u ∈ [I a,I b],u.oneCell'=true:=by
 intro u c;simp at c;rcases c with rfl | rfl <;> rfl
theorem met_fold (w:World) (base n W Z rk gm cm pc:Nat) (U pa a0 a1 a2 a3:Option Addr) (c0 c1 c2 c3:Nat) (p q r s A B C E:Int) (i j Y lo hi:Nat) (kd:Int) (D:MD) (hO:Ow w base (.slice a0 D.a0.length c0) (.slice a1 D.b0.length c1) (.slice a2 D.a1.length c2) (.slice a3 D.b1.length c3) D) (hb:base≤w.heap.size) (hn:Y=0∨Y=1) (hk:kd≠0) (h1:D.b0.length≤100000000) (h2:D.b1.length≤100000000)
  (CS:Hid (∀ V:World,Bl w V→Rt 178 #[.agg #[.slice U n W,.map (some Z),.map (some rk),.slice (Az gm) n cm,.slice pa n pc],.agg #[I p,I q,I r,I s],I (i:Int)] V (I (Y:Int))))
  (CK:Hid (∀ V:World,Bl w V→Rt 104 #[.agg #[.slice U n W,.map (some Z),.map (some rk)],.agg #[I A,I B,I C,I E]] V (I kd)))
  (CF:Hid (∀ V:World,Bl w V→Rt 179 #[.agg #[.slice U n W,.map (some Z),.map (some rk),.slice (Az gm) n cm,.slice pa n pc],I kd,I (i:Int),I (j:Int)] V (.agg #[I (lo:Int),I (hi:Int)]))) :
  Cl 148 #[.agg #[.slice U n W,.map (some Z),.map (some rk),.slice (Az gm) n cm,.slice pa n pc],.agg #[.slice a0 D.a0.length c0,.slice a1 D.b0.length c1,.slice a2 D.a1.length c2,.slice a3 D.b1.length c3],.agg #[I p,I q,I r,I s],I (i:Int),.agg #[I A,I B,I C,I E,I (j:Int)]] w fun e w'=>MtTo w w' base (.slice a0 D.a0.length c0) (.slice a1 D.b0.length c1) (.slice a2 D.a1.length c2) (.slice a3 D.b1.length c3) (mtF D Y (lo,hi)) e:=by
 have T:=H2 hO hb;obtain ⟨aw,hi,ar,au,av⟩:=info_parts inf271;have HI:=H4 hi ar au av;clear hO hb hi ar au av;have qk:(kd != 0)=true:=by simpa using hk
 clear hk;go_enter Tryz.func148,Tryz.ntmps148;go_upto_region 1 with fail
 refine Qj (fun l hW0=>?_)
 have ak:Hid (Bl w l):=by
  rw [hW0];exact Qc β4
 have p0:At l w.heap.size 0 (.slice U n W):=η;have p1:At l w.heap.size 1 (.map (some Z)):=η;have p2:At l w.heap.size 2 (.map (some rk)):=η;have p3:At l w.heap.size 3 (.slice (Az gm) n cm):=η;have p4:At l w.heap.size 4 (.slice pa n pc):=η;have m0:At l (w.heap.size+1) 0 (.slice a0 D.a0.length c0):=η;have m1:At l (w.heap.size+1) 1 (.slice a1 D.b0.length c1):=η;have m2:At l (w.heap.size+1) 2 (.slice a2 D.a1.length c2):=η;have m3:At l (w.heap.size+1) 3 (.slice a3 D.b1.length c3):=η;have jt:At l (w.heap.size+1+1+1) 4 (I (j:Int)):=η;have r0:At l (w.heap.size+1+1+1+1) 0 SN:=η;have r1:At l (w.heap.size+1+1+1+1) 1 SN:=η;have r2:At l (w.heap.size+1+1+1+1) 2 SN:=η;have r3:At l (w.heap.size+1+1+1+1) 3 SN:=η;have f0:l.frozen? ⟨w.heap.size+1+1+1+1,0,none⟩=false:=η;have g0:l.frozen? ⟨w.heap.size+1,0,none⟩=false:=η;have f1:l.frozen? ⟨w.heap.size+1+1+1+1,1,none⟩=false:=η;have g1:l.frozen? ⟨w.heap.size+1,1,none⟩=false:=η;have f2:l.frozen? ⟨w.heap.size+1+1+1+1,2,none⟩=false:=η;have g2:l.frozen? ⟨w.heap.size+1,2,none⟩=false:=η;have f3:l.frozen? ⟨w.heap.size+1+1+1+1,3,none⟩=false:=η;have g3:l.frozen? ⟨w.heap.size+1,3,none⟩=false:=η;have q0:At l (w.heap.size+1+1) 0 (I p):=η;have q1:At l (w.heap.size+1+1) 1 (I q):=η;have q2:At l (w.heap.size+1+1) 2 (I r):=η;have q3:At l (w.heap.size+1+1) 3 (I s):=η;have j0:At l (w.heap.size+1+1+1) 0 (I A):=η;have j1:At l (w.heap.size+1+1+1) 1 (I B):=η;have j2:At l (w.heap.size+1+1+1) 2 (I C):=η;have j3:At l (w.heap.size+1+1+1) 3 (I E):=η;have z0:l.heap.size=w.heap.size+5:=by rw [hW0];simp
 clear hW0;have aq:Hid (∀ V:World,Bl l V→Rt 178 #[.agg #[.slice U n W,.map (some Z),.map (some rk),.slice (Az gm) n cm,.slice pa n pc],.agg #[I p,I q,I r,I s],I (i:Int)] V (I (Y:Int))):=fun V F=>CS.out V (Qb ak.out F);have ap:Hid (∀ V:World,Bl l V→Rt 104 #[.agg #[.slice U n W,.map (some Z),.map (some rk)],.agg #[I A,I B,I C,I E]] V (I kd)):=fun V F=>CK.out V (Qb ak.out F);obtain ⟨kc,kn⟩:=kcn l;have y0:w.heap.size<l.heap.size:=γ;have y1:w.heap.size+1+1<l.heap.size:=γ;have y2:w.heap.size+1+1+1<l.heap.size:=γ;refine wk ?_;repeat (go_big_quiet_step ((first | (go_at_call 178;exact Qm (aq.out _ (Kin.h _))) | (go_at_call 104;exact Qm (ap.out _ (Kin.h _))) | fail)))
 refine kq1 (fun wq hq=>?_);clear kc kn aq ap CS CK q0 q1 q2 q3 j0 j1 j2 j3;replace p0:=Qa hq p0;replace p1:=Qa hq p1;replace p2:=Qa hq p2;replace p3:=Qa hq p3;replace p4:=Qa hq p4;replace m0:=Qa hq m0;replace m1:=Qa hq m1;replace m2:=Qa hq m2;replace m3:=Qa hq m3;replace jt:=Qa hq jt;replace r0:=Qa hq r0;replace r1:=Qa hq r1;replace r2:=Qa hq r2;replace r3:=Qa hq r3;replace f0:Fn wq (w.heap.size+1+1+1+1) 0:=(hq.frozen θ).trans f0;replace g0:Fn wq (w.heap.size+1) 0:=(hq.frozen θ).trans g0;replace f1:Fn wq (w.heap.size+1+1+1+1) 1:=(hq.frozen θ).trans f1;replace g1:Fn wq (w.heap.size+1) 1:=(hq.frozen θ).trans g1;replace f2:Fn wq (w.heap.size+1+1+1+1) 2:=(hq.frozen θ).trans f2;replace g2:Fn wq (w.heap.size+1) 2:=(hq.frozen θ).trans g2;replace f3:Fn wq (w.heap.size+1+1+1+1) 3:=(hq.frozen θ).trans f3;replace g3:Fn wq (w.heap.size+1) 3:=(hq.frozen θ).trans g3;have a8:=Hd (Qb ak.out hq);have zq:w.heap.size+5≤wq.heap.size:=by have:=hq.size;omega
 clear hq ak z0 y0 y1 y2;go_upto_region 3 with fail
 rcases hn with rfl | rfl
 ·have HS:Hid (∀ V:World,Bl wq V→(fun w'=>At w' w.heap.size 0 (.slice U n W)∧At w' w.heap.size 1 (.map (some Z))∧At w' w.heap.size 2 (.map (some rk))∧At w' w.heap.size 3 (.slice (Az gm) n cm)∧At w' w.heap.size 4 (.slice pa n pc)∧At w' (w.heap.size+1) 0 (.slice a0 D.a0.length c0)∧At w' (w.heap.size+1) 1 (.slice a1 D.b0.length c1)∧At w' (w.heap.size+1) 2 (.slice a2 D.a1.length c2)∧At w' (w.heap.size+1) 3 (.slice a3 D.b1.length c3)∧At w' (w.heap.size+1+1+1) 4 (I (j:Int))) V):=fun V F=>⟨Qa F p0,Qa F p1,Qa F p2,Qa F p3,Qa F p4,Qa F m0,Qa F m1,Qa F m2,Qa F m3,Qa F jt⟩;refine Qz (S:=fun w'=>At w' w.heap.size 0 (.slice U n W)∧At w' w.heap.size 1 (.map (some Z))∧At w' w.heap.size 2 (.map (some rk))∧At w' w.heap.size 3 (.slice (Az gm) n cm)∧At w' w.heap.size 4 (.slice pa n pc)∧At w' (w.heap.size+1) 0 (.slice a0 D.a0.length c0)∧At w' (w.heap.size+1) 1 (.slice a1 D.b0.length c1)∧At w' (w.heap.size+1) 2 (.slice a2 D.a1.length c2)∧At w' (w.heap.size+1) 3 (.slice a3 D.b1.length c3)∧At w' (w.heap.size+1+1+1) 4 (I (j:Int))) (late:=fun j=>decide (j=15)) μ ?_;have g:=HS.out _ (Qe (Qd wq));refine Lk 0 (I 0) g ?_;refine Lk 1 (I 0) g ?_;refine Lk 2 (.pointer (Az (w.heap.size+1))) g ?_;refine Lk 3 (.pointer (Ad (w.heap.size+1) 1)) g ?_;refine Lk 4 (.slice a1 D.b0.length c1) g ?_;refine Lk 5 (.agg #[.slice U n W,.map (some Z),.map (some rk),.slice (Az gm) n cm,.slice pa n pc]) g ?_;refine Lk 6 (I kd) g ?_;refine Lk 7 (I (i:Int)) g ?_;refine Lk 8 (.pointer (Ad (w.heap.size+1+1+1) 4)) g ?_;refine Lk 9 (I (j:Int)) g ?_;refine Lt.one (i:=10) μ rfl rfl ?_;refine Jc 179 #[.agg #[.slice U n W,.map (some Z),.map (some rk),.slice (Az gm) n cm,.slice pa n pc],I kd,I (i:Int),I (j:Int)] μ (CF.out _ (Qe a8.out)) ?_;rintro e w1 ⟨rfl,aj⟩;have d:Hid (Bl wq w1):=Qb (Qe (Qd _)) aj;clear aj;refine ⟨_,rfl,fun _=>HS.out _ d.out, ?_⟩;try simp only [Ap]
  refine Lt.one (i:=11) μ rfl rfl ?_;go_simp;refine ⟨HS.out _ (Qc d.out), ?_⟩;have x:Bl w (w1.alloc (.cells #[I (lo:Int),I (hi:Int)] 257)):=Qc (Qb a8.out d.out);have ay:w.heap.size+5≤w1.heap.size:=by have:=d.out.size;omega
  obtain ⟨u,m,hr,a6,a,ao,X⟩:=run_append_own_at (P:=Tryz.prog) (w1.alloc (.cells #[I (lo:Int),I (hi:Int)] 257)) base 178 178 257 aw (.agg #[I 0,I 0]) 2 16 Tryz.underlying178 HI.out.1 HI.out.2.1 HI.out.2.2.1 HI.out.2.2.2 rfl τ (.slice a1 D.b0.length c1) D.b0.length (pV D.b0) (Qh T.out.1.o1 x) ⟨w1.heap.size,0,none⟩ 1 1 [I (lo:Int),I (hi:Int)] rfl (Ui _ _ _ _) (two_one _ _) Γ γ (by have:=x.size;have:=T.out.2;omega);obtain ⟨a7,c7,rfl,_⟩:=Qt a6
  have c:∀ b,w.heap.size≤b→some b≠(Value.slice a1 D.b0.length c1).ownBlock:=fun b hb e=>by
   have:=(T.out.1.o1.lt b e.symm).2;omega
  have an:=HS.out _ (Qc (o:=.cells #[I (lo:Int),I (hi:Int)] 257) d.out);obtain ⟨L,M,N,O,Q,G,y,H,z,K⟩:=an;replace L:=a.cell L (c _ θ);replace M:=a.cell M (c _ θ);replace N:=a.cell N (c _ θ);replace O:=a.cell O (c _ θ);replace Q:=a.cell Q (c _ θ);replace G:=a.cell G (c _ θ);replace y:=a.cell y (c _ θ);replace H:=a.cell H (c _ θ);replace z:=a.cell z (c _ θ);replace K:=a.cell K (c _ θ);have af:At m (w.heap.size+1+1+1+1) 0 SN:=a.cell (Ql (Qa d.out r0)) (c _ θ);have aa:m.frozen? ⟨w.heap.size+1+1+1+1,0,none⟩=false:=by rw [Fo (a.block (w.heap.size+1+1+1+1) ψ (c _ γ))];exact ((Qc d.out).frozen θ).trans f0
  have ag:At m (w.heap.size+1+1+1+1) 1 SN:=a.cell (Ql (Qa d.out r1)) (c _ θ);have ab:m.frozen? ⟨w.heap.size+1+1+1+1,1,none⟩=false:=by rw [Fo (a.block (w.heap.size+1+1+1+1) ψ (c _ γ))];exact ((Qc d.out).frozen θ).trans f1
  have ah:At m (w.heap.size+1+1+1+1) 2 SN:=a.cell (Ql (Qa d.out r2)) (c _ θ);have ac:m.frozen? ⟨w.heap.size+1+1+1+1,2,none⟩=false:=by rw [Fo (a.block (w.heap.size+1+1+1+1) ψ (c _ γ))];exact ((Qc d.out).frozen θ).trans f2
  have ai:At m (w.heap.size+1+1+1+1) 3 SN:=a.cell (Ql (Qa d.out r3)) (c _ θ);have ae:m.frozen? ⟨w.heap.size+1+1+1+1,3,none⟩=false:=by rw [Fo (a.block (w.heap.size+1+1+1+1) ψ (c _ γ))];exact ((Qc d.out).frozen θ).trans f3
  have eg:m.frozen? ⟨w.heap.size+1,1,none⟩=false:=by rw [Fo (a.block (w.heap.size+1) ψ (c _ γ))];exact ((Qc d.out).frozen θ).trans g1
  have J:(fun w'=>At w' w.heap.size 0 (.slice U n W)∧At w' w.heap.size 1 (.map (some Z))∧At w' w.heap.size 2 (.map (some rk))∧At w' w.heap.size 3 (.slice (Az gm) n cm)∧At w' w.heap.size 4 (.slice pa n pc)∧At w' (w.heap.size+1) 0 (.slice a0 D.a0.length c0)∧At w' (w.heap.size+1) 1 (.slice a1 D.b0.length c1)∧At w' (w.heap.size+1) 2 (.slice a2 D.a1.length c2)∧At w' (w.heap.size+1) 3 (.slice a3 D.b1.length c3)∧At w' (w.heap.size+1+1+1) 4 (I (j:Int))) m:=⟨L,M,N,O,Q,G,y,H,z,K⟩;have z5:w1.heap.size+1≤m.heap.size:=by have:=a.size;simpa using this
  try simp only [Ap]
  refine Lt.one (i:=12) μ rfl rfl ?_;refine Jd (.tmp 28) (.tmp 35) 178 rfl _ _ (.slice a7 (D.b0.length+1) c7) m rfl rfl hr ?_;refine ⟨fun _=>J, ?_⟩;try simp only [Ap]
  refine Lk 13 (.pointer (Az (w.heap.size+1))) J ?_;refine Lk 14 (.pointer (Ad (w.heap.size+1) 1)) J ?_;refine Lt.one (i:=15) μ rfl rfl ?_;refine Yb (w':=m.setCell ⟨w.heap.size+1,1,none⟩ (.slice a7 (D.b0.length+1) c7)) (by first | go_simp | simp [go_sem,y,eg]) ?_;refine ⟨fun h=>absurd h τ, ?_⟩;try simp only [Ap]
  refine Lt.done μ ?_;go_upto_region 4 with fail
  refine Qj (fun t f=>?_);have x0:At t (w.heap.size+1) 0 (.slice a0 D.a0.length c0):=by rw [f];exact (Co _ _ _ _ ν).trans G
  have x1:At t (w.heap.size+1) 1 (.slice a7 (D.b0.length+1) c7):=by rw [f];exact Cs _ _ _ y
  have x2:At t (w.heap.size+1) 2 (.slice a2 D.a1.length c2):=by rw [f];exact (Co _ _ _ _ ν).trans H
  have x3:At t (w.heap.size+1) 3 (.slice a3 D.b1.length c3):=by rw [f];exact (Co _ _ _ _ ν).trans z
  have b8:At t (w.heap.size+1+1+1+1) 0 SN:=by rw [f];exact (World.cell?_setCell_far _ _ _ _ θ).trans af
  have az:t.frozen? ⟨w.heap.size+1+1+1+1,0,none⟩=false:=by rw [f,Fz];exact aa
  have b9:At t (w.heap.size+1+1+1+1) 1 SN:=by rw [f];exact (World.cell?_setCell_far _ _ _ _ θ).trans ag
  have b5:t.frozen? ⟨w.heap.size+1+1+1+1,1,none⟩=false:=by rw [f,Fz];exact ab
  have ba:At t (w.heap.size+1+1+1+1) 2 SN:=by rw [f];exact (World.cell?_setCell_far _ _ _ _ θ).trans ah
  have b6:t.frozen? ⟨w.heap.size+1+1+1+1,2,none⟩=false:=by rw [f,Fz];exact ac
  have bb:At t (w.heap.size+1+1+1+1) 3 SN:=by rw [f];exact (World.cell?_setCell_far _ _ _ _ θ).trans ai
  have b7:t.frozen? ⟨w.heap.size+1+1+1+1,3,none⟩=false:=by rw [f,Fz];exact ae
  have HX:Hid (Sam m t (fun k=>k=w.heap.size+1)):=by rw [f];exact Sam.set _ _ _ _
  have HY:Hid (Sam w m (fun k=>(Value.slice a1 D.b0.length c1).ownBlock=some k)∧m.ownsRow base 257 2 (.slice a7 (D.b0.length+1) c7) (D.b0.length+1) (pV D.b0 ++ [I (lo:Int),I (hi:Int)])∧((Value.slice a7 (D.b0.length+1) c7).ownBlock=(Value.slice a1 D.b0.length c1).ownBlock∨(Value.slice a7 (D.b0.length+1) c7).ownBlock=some (w1.heap.size+1))∧Below base w m):=⟨(Sam.below (R:=fun k=>(Value.slice a1 D.b0.length c1).ownBlock=some k) x).then (Sam.grown a) fun k _ h=>h,a6,by simpa using X,(x.mono T.out.2).grown a (by have:=x.size;have:=T.out.2;omega) (Qn T.out.1.o1)⟩;have HM:Hid (mtF D 0 (lo,hi)=⟨D.a0,D.b0 ++ [(lo,hi)],D.a1,D.b1⟩):=rfl;have zz:w.heap.size+5≤t.heap.size:=by have:=HX.out.size;omega
  have am:Hid (Below base w t):=by rw [f];exact HY.out.2.2.2.setCell (p:=⟨w.heap.size+1,1,none⟩) (by have:=T.out.2;dsimp only;omega) _
  clear f L M N O Q G y H z K af aa ag ab ah ac ai ae eg c X ao a a6 hr x J g HS CF HI p0 p1 p2 p3 p4 m0 m1 m2 m3 jt r0 r1 r2 r3 f0 g0 f1 g1 f2 g2 f3 g3 a8 d;have ax:=T.out.2;go_wp2;refine bodyPost_ret (v:=.agg #[.slice a0 D.a0.length c0,.slice a7 (D.b0.length+1) c7,.slice a2 D.a1.length c2,.slice a3 D.b1.length c3]) (by simp [results,Tryz.results148,go_sem, *]) rfl ?_;rw [HM.out];refine mt_fold1 (N6:=w.heap.size+1) (Nt:=w.heap.size+1+1+1+1) (H1:=w1.heap.size+1) T.out.1 HY.out.1 HY.out.2.1 HY.out.2.2.1 HX.out ((((Sam.set _ _ _ _).then (Sam.set _ _ _ _) fun _ _ h=>h).then (Sam.set _ _ _ _) fun _ _ h=>h).then (Sam.set _ _ _ _) fun _ _ h=>h) γ γ γ γ ((((am.out.setCell θ _).setCell θ _).setCell θ _).setCell θ _)
 ·have HS:Hid (∀ V:World,Bl wq V→(fun w'=>At w' w.heap.size 0 (.slice U n W)∧At w' w.heap.size 1 (.map (some Z))∧At w' w.heap.size 2 (.map (some rk))∧At w' w.heap.size 3 (.slice (Az gm) n cm)∧At w' w.heap.size 4 (.slice pa n pc)∧At w' (w.heap.size+1) 0 (.slice a0 D.a0.length c0)∧At w' (w.heap.size+1) 1 (.slice a1 D.b0.length c1)∧At w' (w.heap.size+1) 2 (.slice a2 D.a1.length c2)∧At w' (w.heap.size+1) 3 (.slice a3 D.b1.length c3)∧At w' (w.heap.size+1+1+1) 4 (I (j:Int))) V):=fun V F=>⟨Qa F p0,Qa F p1,Qa F p2,Qa F p3,Qa F p4,Qa F m0,Qa F m1,Qa F m2,Qa F m3,Qa F jt⟩;refine Qz (S:=fun w'=>At w' w.heap.size 0 (.slice U n W)∧At w' w.heap.size 1 (.map (some Z))∧At w' w.heap.size 2 (.map (some rk))∧At w' w.heap.size 3 (.slice (Az gm) n cm)∧At w' w.heap.size 4 (.slice pa n pc)∧At w' (w.heap.size+1) 0 (.slice a0 D.a0.length c0)∧At w' (w.heap.size+1) 1 (.slice a1 D.b0.length c1)∧At w' (w.heap.size+1) 2 (.slice a2 D.a1.length c2)∧At w' (w.heap.size+1) 3 (.slice a3 D.b1.length c3)∧At w' (w.heap.size+1+1+1) 4 (I (j:Int))) (late:=fun j=>decide (j=15)) μ ?_;have g:=HS.out _ (Qe (Qd wq));refine Lk 0 (I 1) g ?_;refine Lk 1 (I 1) g ?_;refine Lk 2 (.pointer (Ad (w.heap.size+1) 2)) g ?_;refine Lk 3 (.pointer (Ad (w.heap.size+1) 3)) g ?_;refine Lk 4 (.slice a3 D.b1.length c3) g ?_;refine Lk 5 (.agg #[.slice U n W,.map (some Z),.map (some rk),.slice (Az gm) n cm,.slice pa n pc]) g ?_;refine Lk 6 (I kd) g ?_;refine Lk 7 (I (i:Int)) g ?_;refine Lk 8 (.pointer (Ad (w.heap.size+1+1+1) 4)) g ?_;refine Lk 9 (I (j:Int)) g ?_;refine Lt.one (i:=10) μ rfl rfl ?_;refine Jc 179 #[.agg #[.slice U n W,.map (some Z),.map (some rk),.slice (Az gm) n cm,.slice pa n pc],I kd,I (i:Int),I (j:Int)] μ (CF.out _ (Qe a8.out)) ?_;rintro e w1 ⟨rfl,aj⟩;have d:Hid (Bl wq w1):=Qb (Qe (Qd _)) aj;clear aj;refine ⟨_,rfl,fun _=>HS.out _ d.out, ?_⟩;try simp only [Ap]
  refine Lt.one (i:=11) μ rfl rfl ?_;go_simp;refine ⟨HS.out _ (Qc d.out), ?_⟩;have x:Bl w (w1.alloc (.cells #[I (lo:Int),I (hi:Int)] 257)):=Qc (Qb a8.out d.out);have ay:w.heap.size+5≤w1.heap.size:=by have:=d.out.size;omega
  obtain ⟨u,m,hr,a6,a,ao,X⟩:=run_append_own_at (P:=Tryz.prog) (w1.alloc (.cells #[I (lo:Int),I (hi:Int)] 257)) base 178 178 257 aw (.agg #[I 0,I 0]) 2 16 Tryz.underlying178 HI.out.1 HI.out.2.1 HI.out.2.2.1 HI.out.2.2.2 rfl τ (.slice a3 D.b1.length c3) D.b1.length (pV D.b1) (Qh T.out.1.o3 x) ⟨w1.heap.size,0,none⟩ 1 1 [I (lo:Int),I (hi:Int)] rfl (Ui _ _ _ _) (two_one _ _) Γ γ (by have:=x.size;have:=T.out.2;omega);obtain ⟨a7,c7,rfl,_⟩:=Qt a6
  have c:∀ b,w.heap.size≤b→some b≠(Value.slice a3 D.b1.length c3).ownBlock:=fun b hb e=>by
   have:=(T.out.1.o3.lt b e.symm).2;omega
  have an:=HS.out _ (Qc (o:=.cells #[I (lo:Int),I (hi:Int)] 257) d.out);obtain ⟨L,M,N,O,Q,G,y,H,z,K⟩:=an;replace L:=a.cell L (c _ θ);replace M:=a.cell M (c _ θ);replace N:=a.cell N (c _ θ);replace O:=a.cell O (c _ θ);replace Q:=a.cell Q (c _ θ);replace G:=a.cell G (c _ θ);replace y:=a.cell y (c _ θ);replace H:=a.cell H (c _ θ);replace z:=a.cell z (c _ θ);replace K:=a.cell K (c _ θ);have af:At m (w.heap.size+1+1+1+1) 0 SN:=a.cell (Ql (Qa d.out r0)) (c _ θ);have aa:m.frozen? ⟨w.heap.size+1+1+1+1,0,none⟩=false:=by rw [Fo (a.block (w.heap.size+1+1+1+1) ψ (c _ γ))];exact ((Qc d.out).frozen θ).trans f0
  have ag:At m (w.heap.size+1+1+1+1) 1 SN:=a.cell (Ql (Qa d.out r1)) (c _ θ);have ab:m.frozen? ⟨w.heap.size+1+1+1+1,1,none⟩=false:=by rw [Fo (a.block (w.heap.size+1+1+1+1) ψ (c _ γ))];exact ((Qc d.out).frozen θ).trans f1
  have ah:At m (w.heap.size+1+1+1+1) 2 SN:=a.cell (Ql (Qa d.out r2)) (c _ θ);have ac:m.frozen? ⟨w.heap.size+1+1+1+1,2,none⟩=false:=by rw [Fo (a.block (w.heap.size+1+1+1+1) ψ (c _ γ))];exact ((Qc d.out).frozen θ).trans f2
  have ai:At m (w.heap.size+1+1+1+1) 3 SN:=a.cell (Ql (Qa d.out r3)) (c _ θ);have ae:m.frozen? ⟨w.heap.size+1+1+1+1,3,none⟩=false:=by rw [Fo (a.block (w.heap.size+1+1+1+1) ψ (c _ γ))];exact ((Qc d.out).frozen θ).trans f3
  have eg:m.frozen? ⟨w.heap.size+1,3,none⟩=false:=by rw [Fo (a.block (w.heap.size+1) ψ (c _ γ))];exact ((Qc d.out).frozen θ).trans g3
  have J:(fun w'=>At w' w.heap.size 0 (.slice U n W)∧At w' w.heap.size 1 (.map (some Z))∧At w' w.heap.size 2 (.map (some rk))∧At w' w.heap.size 3 (.slice (Az gm) n cm)∧At w' w.heap.size 4 (.slice pa n pc)∧At w' (w.heap.size+1) 0 (.slice a0 D.a0.length c0)∧At w' (w.heap.size+1) 1 (.slice a1 D.b0.length c1)∧At w' (w.heap.size+1) 2 (.slice a2 D.a1.length c2)∧At w' (w.heap.size+1) 3 (.slice a3 D.b1.length c3)∧At w' (w.heap.size+1+1+1) 4 (I (j:Int))) m:=⟨L,M,N,O,Q,G,y,H,z,K⟩;have z5:w1.heap.size+1≤m.heap.size:=by have:=a.size;simpa using this
  try simp only [Ap]
  refine Lt.one (i:=12) μ rfl rfl ?_;refine Jd (.tmp 28) (.tmp 35) 178 rfl _ _ (.slice a7 (D.b1.length+1) c7) m rfl rfl hr ?_;refine ⟨fun _=>J, ?_⟩;try simp only [Ap]
  refine Lk 13 (.pointer (Ad (w.heap.size+1) 2)) J ?_;refine Lk 14 (.pointer (Ad (w.heap.size+1) 3)) J ?_;refine Lt.one (i:=15) μ rfl rfl ?_;refine Yb (w':=m.setCell ⟨w.heap.size+1,3,none⟩ (.slice a7 (D.b1.length+1) c7)) (by first | go_simp | simp [go_sem,z,eg]) ?_;refine ⟨fun h=>absurd h τ, ?_⟩;try simp only [Ap]
  refine Lt.done μ ?_;go_upto_region 4 with fail
  refine Qj (fun t f=>?_);have x0:At t (w.heap.size+1) 0 (.slice a0 D.a0.length c0):=by rw [f];exact (Co _ _ _ _ ν).trans G
  have x1:At t (w.heap.size+1) 1 (.slice a1 D.b0.length c1):=by rw [f];exact (Co _ _ _ _ ν).trans y
  have x2:At t (w.heap.size+1) 2 (.slice a2 D.a1.length c2):=by rw [f];exact (Co _ _ _ _ ν).trans H
  have x3:At t (w.heap.size+1) 3 (.slice a7 (D.b1.length+1) c7):=by rw [f];exact Cs _ _ _ z
  have b8:At t (w.heap.size+1+1+1+1) 0 SN:=by rw [f];exact (World.cell?_setCell_far _ _ _ _ θ).trans af
  have az:t.frozen? ⟨w.heap.size+1+1+1+1,0,none⟩=false:=by rw [f,Fz];exact aa
  have b9:At t (w.heap.size+1+1+1+1) 1 SN:=by rw [f];exact (World.cell?_setCell_far _ _ _ _ θ).trans ag
  have b5:t.frozen? ⟨w.heap.size+1+1+1+1,1,none⟩=false:=by rw [f,Fz];exact ab
  have ba:At t (w.heap.size+1+1+1+1) 2 SN:=by rw [f];exact (World.cell?_setCell_far _ _ _ _ θ).trans ah
  have b6:t.frozen? ⟨w.heap.size+1+1+1+1,2,none⟩=false:=by rw [f,Fz];exact ac
  have bb:At t (w.heap.size+1+1+1+1) 3 SN:=by rw [f];exact (World.cell?_setCell_far _ _ _ _ θ).trans ai
  have b7:t.frozen? ⟨w.heap.size+1+1+1+1,3,none⟩=false:=by rw [f,Fz];exact ae
  have HX:Hid (Sam m t (fun k=>k=w.heap.size+1)):=by rw [f];exact Sam.set _ _ _ _
  have HY:Hid (Sam w m (fun k=>(Value.slice a3 D.b1.length c3).ownBlock=some k)∧m.ownsRow base 257 2 (.slice a7 (D.b1.length+1) c7) (D.b1.length+1) (pV D.b1 ++ [I (lo:Int),I (hi:Int)])∧((Value.slice a7 (D.b1.length+1) c7).ownBlock=(Value.slice a3 D.b1.length c3).ownBlock∨(Value.slice a7 (D.b1.length+1) c7).ownBlock=some (w1.heap.size+1))∧Below base w m):=⟨(Sam.below (R:=fun k=>(Value.slice a3 D.b1.length c3).ownBlock=some k) x).then (Sam.grown a) fun k _ h=>h,a6,by simpa using X,(x.mono T.out.2).grown a (by have:=x.size;have:=T.out.2;omega) (Qn T.out.1.o3)⟩;have HM:Hid (mtF D 1 (lo,hi)=⟨D.a0,D.b0,D.a1,D.b1 ++ [(lo,hi)]⟩):=rfl;have zz:w.heap.size+5≤t.heap.size:=by have:=HX.out.size;omega
  have am:Hid (Below base w t):=by rw [f];exact HY.out.2.2.2.setCell (p:=⟨w.heap.size+1,3,none⟩) (by have:=T.out.2;dsimp only;omega) _
  clear f L M N O Q G y H z K af aa ag ab ah ac ai ae eg c X ao a a6 hr x J g HS CF HI p0 p1 p2 p3 p4 m0 m1 m2 m3 jt r0 r1 r2 r3 f0 g0 f1 g1 f2 g2 f3 g3 a8 d;have ax:=T.out.2;go_wp2;refine bodyPost_ret (v:=.agg #[.slice a0 D.a0.length c0,.slice a1 D.b0.length c1,.slice a2 D.a1.length c2,.slice a7 (D.b1.length+1) c7]) (by simp [results,Tryz.results148,go_sem, *]) rfl ?_;rw [HM.out];refine mt_fold3 (N6:=w.heap.size+1) (Nt:=w.heap.size+1+1+1+1) (H1:=w1.heap.size+1) T.out.1 HY.out.1 HY.out.2.1 HY.out.2.2.1 HX.out ((((Sam.set _ _ _ _).then (Sam.set _ _ _ _) fun _ _ h=>h).then (Sam.set _ _ _ _) fun _ _ h=>h).then (Sam.set _ _ _ _) fun _ _ h=>h) γ γ γ γ ((((am.out.setCell θ _).setCell θ _).setCell θ _).setCell θ _)
def BX5 (w:World) (b:Nat) (u0 u1 u2 u3 u4:Value):Prop:=(At w b 0 (u0)∧At w b 1 (u1)∧At w b 2 (u2)∧At w b 3 (u3)∧At w b 4 (u4))∧(Fn w b 0∧Fn w b 1∧Fn w b 2∧Fn w b 3∧Fn w b 4)
theorem BX5.kept (h:BX5 w b a c d e f) (hb:Bl w w'):BX5 w' b a c d e f:=by
 obtain ⟨⟨h0,h1,h2,h3,h4⟩,k0,k1,k2,k3,g⟩:=h;exact ⟨⟨Qa hb h0,Qa hb h1,Qa hb h2,Qa hb h3,Qa hb h4⟩,Qf hb h0 k0,Qf hb h1 k1,Qf hb h2 k2,Qf hb h3 k3,Qf hb h4 g⟩
def setBX5 (w:World) (b:Nat) (u0 u1 u2 u3 u4:Value):World:=((((w.setCell ⟨b,0,none⟩ u0).setCell ⟨b,1,none⟩ u1).setCell ⟨b,2,none⟩ u2).setCell ⟨b,3,none⟩ u3).setCell ⟨b,4,none⟩ u4
theorem Vv (w:World) (b:Nat) (a c d e f:Value):w.grownBy (setBX5 w b a c d e f) (some b):=by
 unfold setBX5;exact Qp (Qp (Qp (Qp (Qg _ _ _ _) (Qg _ _ _ _)) (Qg _ _ _ _)) (Qg _ _ _ _)) (Qg _ _ _ _)
theorem BX5.put (h:BX5 w b c d e f g):BX5 (setBX5 w b g0 g1 g2 g3 g4) b g0 g1 g2 g3 g4:=by
 obtain ⟨⟨h0,h1,h2,h3,h4⟩,k0,k1,k2,k3,a⟩:=h;unfold setBX5;refine ⟨⟨?_, ?_, ?_, ?_, ?_⟩, ?_, ?_, ?_, ?_, ?_⟩
 ·simp [go_sem,h0]
 ·simp [go_sem,h1]
 ·simp [go_sem,h2]
 ·simp [go_sem,h3]
 ·simp [go_sem,h4]
 ·simp [k0]
 ·simp [k1]
 ·simp [k2]
 ·simp [k3]
 ·simp [a]
def BX6 (w:World) (b:Nat) (u0 u1 u2 u3 u4 u5:Value):Prop:=(At w b 0 (u0)∧At w b 1 (u1)∧At w b 2 (u2)∧At w b 3 (u3)∧At w b 4 (u4)∧At w b 5 (u5))∧(Fn w b 0∧Fn w b 1∧Fn w b 2∧Fn w b 3∧Fn w b 4∧Fn w b 5)
theorem BX6.kept (h:BX6 w b a c d e f g) (hb:Bl w w'):BX6 w' b a c d e f g:=by
 obtain ⟨⟨h0,h1,h2,h3,h4,h5⟩,k0,k1,k2,k3,i,j⟩:=h;exact ⟨⟨Qa hb h0,Qa hb h1,Qa hb h2,Qa hb h3,Qa hb h4,Qa hb h5⟩,Qf hb h0 k0,Qf hb h1 k1,Qf hb h2 k2,Qf hb h3 k3,Qf hb h4 i,Qf hb h5 j⟩
def setBX6 (w:World) (b:Nat) (u0 u1 u2 u3 u4 u5:Value):World:=(((((w.setCell ⟨b,0,none⟩ u0).setCell ⟨b,1,none⟩ u1).setCell ⟨b,2,none⟩ u2).setCell ⟨b,3,none⟩ u3).setCell ⟨b,4,none⟩ u4).setCell ⟨b,5,none⟩ u5
theorem Jf (w:World) (b:Nat) (a c d e f g:Value):w.grownBy (setBX6 w b a c d e f g) (some b):=by
 unfold setBX6;exact Qp (Qp (Qp (Qp (Qp (Qg _ _ _ _) (Qg _ _ _ _)) (Qg _ _ _ _)) (Qg _ _ _ _)) (Qg _ _ _ _)) (Qg _ _ _ _)
theorem BX6.put {i j g5:Value} (h:BX6 w b d e f g i j):BX6 (setBX6 w b g0 g1 g2 g3 g4 g5) b g0 g1 g2 g3 g4 g5:=by
 obtain ⟨⟨h0,h1,h2,h3,h4,h5⟩,k0,k1,k2,k3,a,c⟩:=h;unfold setBX6;refine ⟨⟨?_, ?_, ?_, ?_, ?_, ?_⟩, ?_, ?_, ?_, ?_, ?_, ?_⟩
 ·simp [go_sem,h0]
 ·simp [go_sem,h1]
 ·simp [go_sem,h2]
 ·simp [go_sem,h3]
 ·simp [go_sem,h4]
 ·simp [go_sem,h5]
 ·simp [k0]
 ·simp [k1]
 ·simp [k2]
 ·simp [k3]
 ·simp [a]
 ·simp [c]
section
variable {P:Program} {ops:Array Oper} {Q:Exit→Act→World→Prop} {S:World→Prop} {late:Nat→Bool}
theorem Lt.two {c d:Oper} {n:Nat} {L:Array Bool} {a:Act} (hr:Region.ready .any ops L=[i,j]) (hi:ops[i]?=some c) (g:ops[j]?=some d) (e:c.guard=none) (f:d.guard=none)
  (h1:Oper.wp P c a w (fun b w'=>(late i=false→S w')∧Lt P ops Q S late n (L.setIfInBounds i true) b w') Q)
  (h2:Oper.wp P d a w (fun b w'=>(late j=false→S w')∧Lt P ops Q S late n (L.setIfInBounds j true) b w') Q):Lt P ops Q S late (n+1) L a w:=by
 refine ⟨fun h=>(by rw [hr] at h;cases h),fun q hq=>?_⟩;rw [hr] at hq;simp at hq;rcases hq with rfl | rfl
 ·unfold wpOp;simp only [hi];rw [if_pos (by simp [Region.wanted,e])];exact Or.inl h1
 ·unfold wpOp;simp only [g];rw [if_pos (by simp [Region.wanted,f])];exact Or.inl h2
end
end Go.Proofs.YtbjmnlefkbhbdaaGreatDoor
