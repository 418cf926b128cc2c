/- A part of it. -/
import Derived.Test.YtnpboeodhpenmaaGreatDoorQlat
set_option maxRecDepth 100000
set_option maxHeartbeats 40000000
namespace Go.Proofs.YtnpboeodhpenmaaGreatDoor
open Go.RowKit
variable {w:World} {r:Nat}
theorem by_val (w:World) (a:Option Addr) (n c:Nat):Cl 98 #[.slice a n c] w fun e w'=>∃ bf,e=.returned (.func (.func 187) #[] #[.pointer (Az bf)])∧At w' bf 0 (.slice a n c)∧w.heap.size≤bf∧Bl w w':=by
 have b:=Jf;go_enter Tryz.func98,Tryz.ntmps98;go_wp2;go_ret;exact ⟨_,rfl,δ,Nr _,Qb (Qe _)⟩
structure HX (w:World) (r bf g N cf:Nat) (h:Nat→Int):Prop where
 c:At w bf 0 (.slice (Az g) N cf)
 z:∀ i,i<N→At w g i (I (h i))
 n1:bf≠r
 n2:g≠r
theorem HX.set {b g N d:Nat} {h:Nat→Int} (a:HX w r b g N d h) (o:Nat) (u:Value):HX (w.setCell ⟨r,o,none⟩ u) r b g N d h :=
 ⟨Xh a.c a.n1,fun i hi=>Xh (a.z i hi) a.n2,a.n1,a.n2⟩
theorem HX.hg {a g N b:Nat} {h:Nat→Int} (d:HX w r a g N b h):Hg w a N h:=⟨g,0,b,d.c,fun i hi=>by rw [Nat.zero_add];exact d.z i hi⟩
def FSh (f:Value):Prop:=f=.nilFunc∨∃ bf:Nat,f=.func (.func 187) #[] #[.pointer (Az bf)]
def OfNf (w w':World) (e:Ending):Prop := ∃ z0 k0 d0 m1 m2 z3 k3 d3 z4 k4 d4 f,e=.returned (.tuple #[.agg #[.slice z0 k0 d0,.map m1,.map m2,.slice z3 k3 d3,.slice z4 k4 d4],f,.bool false])∧Bl w w'∧FSh f
theorem OfNf.no {w':World} {e:Ending} (h:OfNf w w' e):OfNo w w' e:=by
 obtain ⟨z0,k0,d0,d,g,z3,k3,d3,z4,c,d4,f,b,a,_⟩:=h;exact ⟨z0,k0,d0,d,g,z3,k3,d3,z4,c,d4,f,b,a⟩
theorem of_nof (W H:Int) (a c m q:Option Addr) (i g n h l k p o:Nat) (w:World) (j:Hid (∀ V:World,Bl w V→Rt 85 #[.agg #[I W,I H,.slice a i g,.slice c n h]] V (.tuple #[.agg #[SN,.map none,.map none],.bool false]))) :
  Cl 36 #[.agg #[I W,I H,.slice a i g,.slice c n h,.slice m l k,.slice q p o]] w fun e w'=>OfNf w w' e:=by
 go_enter Tryz.func36,Tryz.ntmps36;go_wp2_with (go_at_call 85;refine (j.out _ Ψ).mono ?_;rintro e d ⟨rfl,b⟩;have f:=Hd (Qc β2 b);have d0:At d (w.heap.size+1) 0 SN:=Qa b δ;have d1:At d (w.heap.size+1) 1 (.map none):=Qa b δ;have d2:At d (w.heap.size+1) 2 (.map none):=Qa b δ;have d3:At d (w.heap.size+1) 3 SN:=Qa b δ;have d4:At d (w.heap.size+1) 4 SN:=Qa b δ;have s:=Bt d0;have k0:Fn d (w.heap.size+1) 0:=(Below.frozen b ξ).trans δ;have k1:Fn d (w.heap.size+1) 1:=(Below.frozen b ξ).trans δ;have k2:Fn d (w.heap.size+1) 2:=(Below.frozen b ξ).trans δ;have k3:Fn d (w.heap.size+1) 3:=(Below.frozen b ξ).trans δ;have r:Fn d (w.heap.size+1) 4:=(Below.frozen b ξ).trans δ;clear b)
 refine bodyPost_ret (v:=.tuple #[.agg #[SN,.map none,.map none,SN,SN],.nilFunc,.bool false]) (by simp [results,Tryz.results36,go_sem, *]) rfl ⟨none,0,0,none,none,none,0,0,none,0,0,_,rfl, ?_,Or.inl rfl⟩;with_reducible repeat' (first | exact f.out | refine Qh ?_ ?_ | refine Qb ?_)
 all_goals (dsimp only;omega)
def OfTv (w w':World) (kd:E4→Int) (L:List T3) (mn:Nat) (M:Nat→M6) (S:List (T3×List T3)) (e:Ending):Prop:=(OfNf w w' e∧¬ SOk kd L mn M S)∨(SOk kd L mn M S∧∃ ad k ra rk gm cm pa pc bf h,e=.returned (.tuple #[.agg #[.slice ad L.length k,.map (some ra),.map (some rk),.slice (Az gm) L.length cm,.slice pa L.length pc],ABv bf,.bool true])∧PileAt w' ad k ra rk gm cm pa pc L kd M∧Hg w' bf L.length h∧Lv S L h S.length 0∧Bl w w')
theorem ofTv_of {w':World} {base i j d:Nat} {c pa:Option Addr} {k n o a:Nat} {L:List T3} {M:Nat→M6} {e:List Int} {f:Nat} {S:List (T3×List T3)} {b:Bool} (h1:b=true↔StOk L (plF (pls L M L.length)) S) (h2:MOk (kdn e f) L M) (hp:PX w w' r base i j d c pa k L M e f) (p:b=true→∃ g l h,HX w' r a g L.length l h∧Lv S L h S.length 0):OfTv w w' (kdn e f) L L.length M S (.returned (.tuple #[.agg #[.slice c L.length k,.map (some i),.map (some j),.slice (Az d) L.length n,.slice pa L.length o],.func (.func 187) #[] #[.pointer (Az a)],.bool b])):=by
 have m:Bl w w':=hp.pk.2.2.2.2
 cases b
 ·exact Or.inl ⟨⟨_,_,_,_,_,_,_,_,_,_,_,_,rfl,m,Or.inr ⟨a,rfl⟩⟩,fun h=>by have:=h1.2 h.2.2;cases this⟩
 ·obtain ⟨g,l,h,s,q⟩:=p rfl;exact Or.inr ⟨⟨rfl,h2,h1.1 rfl⟩,c,k,i,j,d,n,pa,o,a,h,rfl,hp.pile,s.hg,q,m⟩
theorem of_yesv (W H:Int) (a c mp O:Option Addr) (zl Z n cc Y z T:Nat) (w:World) (ks:List Int) (nk:Nat) (L:List T3) (M:Nat→M6) (S:List (T3×List T3)) (hs:Steps w)
  (CL:Hid (∀ V:World,Bl w V→Cl 85 #[.agg #[I W,I H,.slice a zl Z,.slice c n cc]] V fun e w'=>∃ A k base B C,e=.returned (.tuple #[.agg #[.slice A L.length k,.map (some B),.map (some C)],.bool true])∧PK V w' base B C (.slice A L.length k) L (gix L) (kf ks nk)))
  (hM:0<Y→∃ u,mp=Az u∧MRow w u Y M) (hS:SRow w O S) (aq:L.Pairwise ltT) (h0:0<L.length) (hL:L.length≤300) (af:∀ t∈L,(0≤t.1∧t.1≤8)∧(0≤t.2.1∧t.2.1≤8)∧(0≤t.2.2∧t.2.2≤3)) (aw:S.length≤17592186044416) (ae:∀ s∈S,s.2.length≤17592186044416) :
  Cl 36 #[.agg #[I W,I H,.slice a zl Z,.slice c n cc,.slice mp Y z,.slice O S.length T]] w fun e w'=>OfTv w w' (kdn ks nk) L Y M S e:=by
 have HS:Hid (Steps w∧SRow w O S∧L.Pairwise ltT∧(∀ t∈L,(0≤t.1∧t.1≤8)∧(0≤t.2.1∧t.2.1≤8)∧(0≤t.2.2∧t.2.2≤3))∧∀ s∈S,s.2.length≤17592186044416):=⟨hs,hS,aq,af,ae⟩;have HM:=Hd hM;clear hs hS aq af ae hM;go_enter Tryz.func36,Tryz.ntmps36;go_upto_region 4 with (go_at_call 85;refine (CL.out _ Ψ).mono ?_;rintro e w2 ⟨A,k,base,B,C,rfl,ap⟩;have P:=Hd ap;clear ap)
 refine Qi (fun W3 J=>?_);obtain ⟨G,hG⟩:∃ G,G=w2.heap.size:=⟨_,rfl⟩
 have Q:Bl w2 W3:=by
  rw [J];with_reducible repeat (first | exact Qe _ | refine Qb ?_ | refine Qh ?_ ?_)
  all_goals (dsimp only;omega)
 have D:At W3 G 0 (.slice A L.length k):=by rw [J,hG];simp [go_sem]
 have q1:At W3 G 1 (.map (some B)):=by rw [J,hG];simp [go_sem]
 have q2:At W3 G 2 (.map (some C)):=by rw [J,hG];simp [go_sem]
 rw [← hG];have d:=H3 (Qc P.out.2.2.2.2 Q) (P.out.kept Q) (Qc β2 (Qc P.out.2.2.2.2 Q));clear J hG Q P;have x4:At W3 w.heap.size 4 (.slice mp Y z):=Qa d.out.1 δ;have zq:=Bt D;have zx:=Bt x4;by_cases hmn:Y=L.length
 ·obtain ⟨u,rfl,K⟩:=HM.out γ;subst hmn;have CS:=Hd (fun (V:World) R=>spread_gen V k B C u z A L (kdn ks nk) M (HS.out.1.kept (Qc d.out.2.2 R)) (d.out.2.1.pa.kept R) (d.out.2.1.kl.kept R) hL HS.out.2.2.2.1 (K.kept (Qc d.out.2.2 R)));clear HM;go_upto_region 5 with (go_at_call 96;refine (CS.out _ (Qe _)).mono ?_;rintro e f h4;have H4:=Hd h4;clear h4;rcases H4.out with ⟨z0,k0,d0,m1,m2,z3,k3,d3,z4,k4,d4,rfl,an,j⟩ | ⟨pa,pc,rfl,ao,U,j⟩)
  ·have b:Hid (Below ((w.alloc (.cells #[I W,I H,.slice a zl Z,.slice c n cc,.slice (Az u) L.length z,.slice O S.length T] 29)).alloc (.cells #[SN,.map none,.map none,SN,SN] 100)).heap.size ((w.alloc (.cells #[I W,I H,.slice a zl Z,.slice c n cc,.slice (Az u) L.length z,.slice O S.length T] 29)).alloc (.cells #[SN,.map none,.map none,SN,SN] 100)) f∧¬ MOk (kdn ks nk) L M):=⟨Qc d.out.1 j,an⟩;clear an j D q1 q2 x4 zq zx H4 CS K;have e0:At f (w.heap.size+1) 0 SN:=Qa b.out.1 δ;have e1:At f (w.heap.size+1) 1 (.map none):=Qa b.out.1 δ;have e2:At f (w.heap.size+1) 2 (.map none):=Qa b.out.1 δ;have e3:At f (w.heap.size+1) 3 SN:=Qa b.out.1 δ;have e4:At f (w.heap.size+1) 4 SN:=Qa b.out.1 δ;have F:=Bt e0;have f0:Fn f (w.heap.size+1) 0:=(Below.frozen b.out.1 ξ).trans δ;have f1:Fn f (w.heap.size+1) 1:=(Below.frozen b.out.1 ξ).trans δ;have f2:Fn f (w.heap.size+1) 2:=(Below.frozen b.out.1 ξ).trans δ;have f3:Fn f (w.heap.size+1) 3:=(Below.frozen b.out.1 ξ).trans δ;have f4:Fn f (w.heap.size+1) 4:=(Below.frozen b.out.1 ξ).trans δ;go_wp2;refine bodyPost_ret (v:=.tuple #[.agg #[SN,.map none,.map none,SN,SN],.nilFunc,.bool false]) (by simp [results,Tryz.results36,go_sem, *]) rfl (Or.inl ⟨⟨none,0,0,none,none,none,0,0,none,0,0,_,rfl, ?_,Or.inl rfl⟩,fun h=>b.out.2 h.2.1⟩);with_reducible repeat' (first | exact Qc β2 b.out.1 | refine Qh ?_ ?_ | refine Qb ?_)
   all_goals (dsimp only;omega)
  ·have ai:At f (w.heap.size+1) 0 SN:=Qa (Qc d.out.1 j) δ
   have b:Hid (Below ((w.alloc (.cells #[I W,I H,.slice a zl Z,.slice c n cc,.slice (Az u) L.length z,.slice O S.length T] 29)).alloc (.cells #[SN,.map none,.map none,SN,SN] 100)).heap.size ((w.alloc (.cells #[I W,I H,.slice a zl Z,.slice c n cc,.slice (Az u) L.length z,.slice O S.length T] 29)).alloc (.cells #[SN,.map none,.map none,SN,SN] 100)) f∧MOk (kdn ks nk) L M∧PX w f (w.heap.size+1) base B C u A pa k L M ks nk):=by
    obtain ⟨_,_,_,⟨a1,a2,a3,a4,a5,a6,a7⟩,_⟩:=d.out.2.1;simp only [World.size_alloc] at a1 a2 a3 a4 a5 a6 a7;have ay:=bk (K 0 h0).1.1;dsimp only at ay;exact ⟨Qc d.out.1 j,ao,(d.out.2.1.base β2).kept j,(K.kept d.out.2.2).kept j,U,γ,γ,γ,γ,γ,U.not_at (by rw [Yj];exact h0) ai⟩
   clear ai;clear ao U j D q1 q2 x4 zq zx H4 CS d K;go_upto_region 7 with fail
   refine Qi (fun N y=>?_);obtain ⟨o,x⟩:∃ G,G=f.heap.size:=⟨_,rfl⟩
   have X:Bl f N:=by
    rw [y];with_reducible repeat (first | exact Qe _ | refine Qb ?_ | refine Qh ?_ ?_)
    all_goals (dsimp only;omega)
   have D:At N o 0 (.slice A L.length k):=by rw [y,x];simp [go_sem]
   have q1:At N o 1 (.map (some B)):=by rw [y,x];simp [go_sem]
   have q2:At N o 2 (.map (some C)):=by rw [y,x];simp [go_sem]
   have q3:At N o 3 (.slice (Az u) L.length z):=by rw [y,x];simp [go_sem]
   have q4:At N o 4 (.slice pa L.length pc):=by rw [y,x];simp [go_sem]
   rw [← x];have p:=H3 (Qc b.out.1 X) b.out.2.1 (b.out.2.2.kept X);clear y x X b;have x5:At N w.heap.size 5 (.slice O S.length T):=Qa p.out.1 δ;have zq:=Bt D;have zx:=Bt x5;have CH:Hid (∀ V:World,Bl N V→Cl 97 #[.agg #[.slice A L.length k,.map (some B),.map (some C),.slice (Az u) L.length z,.slice pa L.length pc],.slice O S.length T] V fun e w'=>HgTv L (pls L M L.length) S V w' e):=fun V R=>heights_lv V L.length k pc T B C u z A pa O L (pls L M L.length) S (p.out.2.2.pk.pa.1.kept R) (p.out.2.2.tr.kept R) (HS.out.2.1.kept (Qc p.out.2.2.pk.2.2.2.2 R)) rfl (Yj _ _ _) HS.out.2.2.1 h0 hL aw HS.out.2.2.2.2
   have au:Hid (w.heap.size+1<N.heap.size):=by
    have av:w.heap.size+1<N.heap.size:=by
     have:=p.out.1.size;simp only [World.size_alloc] at this;omega
    exact av
   go_upto_region 8 with (go_at_call 97;go_loud (refine (CH.out _ (Qe _)).mono ?_;rintro e E ⟨ha,am,hc,bh,rfl,ag,q,aj⟩;have HV:=Hd aj;clear aj;have g:=H3 (Qc p.out.1 q) q ag;replace D:=Qa q D;replace q1:=Qa q q1;replace q2:=Qa q q2;replace q3:=Qa q q3;replace q4:=Qa q q4;clear q ag))
   clear x5 zx CH;replace zq:o<E.heap.size:=bk D;have d0:At E (w.heap.size+1) 0 SN:=Qa g.out.1 δ;have d1:At E (w.heap.size+1) 1 (.map none):=Qa g.out.1 δ;have d2:At E (w.heap.size+1) 2 (.map none):=Qa g.out.1 δ;have d3:At E (w.heap.size+1) 3 SN:=Qa g.out.1 δ;have d4:At E (w.heap.size+1) 4 SN:=Qa g.out.1 δ;have F:=Bt d0;have k0:Fn E (w.heap.size+1) 0:=(Below.frozen g.out.1 ξ).trans δ;have k1:Fn E (w.heap.size+1) 1:=(Below.frozen g.out.1 ξ).trans δ;have k2:Fn E (w.heap.size+1) 2:=(Below.frozen g.out.1 ξ).trans δ;have k3:Fn E (w.heap.size+1) 3:=(Below.frozen g.out.1 ξ).trans δ;have k4:Fn E (w.heap.size+1) 4:=(Below.frozen g.out.1 ξ).trans δ
   have bq:o≠w.heap.size+1:=by
    intro e;rw [e] at D;rw [d0] at D;simp only [Option.some.injEq,Value.slice.injEq] at D;omega
   go_region_held3 (fun w'=>At w' o 0 (.slice A L.length k)∧At w' o 1 (.map (some B))∧At w' o 2 (.map (some C))∧At w' o 3 (.slice (Az u) L.length z)∧At w' o 4 (.slice pa L.length pc))
    ((refine ⟨?_, ?_, ?_, ?_, ?_⟩ <;> (repeat' (first | (with_reducible assumption) | (with_reducible refine Xh ?_ ?_) | (dsimp only;omega) | (simp [go_sem];done) | (with_reducible refine Qk ?_) | (with_reducible refine Qq ?_)))))
    ((go_at_call 98;refine (by_val _ ha am hc).mono ?_;rintro e m ⟨bf,rfl,ah,ak,l⟩;have a8:Hid (At m bf 0 (.slice ha am hc)∧w.heap.size+1<bf):=⟨ah,(by first | omega | (simp at ak;omega))⟩;clear ah ak;have ab:At m o 0 (.slice A L.length k):=Qa l ζ;have b7:At m o 1 (.map (some B)):=Qa l ζ;have b8:At m o 2 (.map (some C)):=Qa l ζ;have b9:At m o 3 (.slice (Az u) L.length z):=Qa l ζ;have ba:At m o 4 (.slice pa L.length pc):=Qa l ζ;have ac:At m (w.heap.size+1) 0 SN:=Qa l ζ;have bi:Fn m (w.heap.size+1) 0:=(l.frozen (by dsimp only;first | exact F | (simp;exact F))).trans (by first | exact k0 | (simp [go_sem,k0];done));have bb:At m (w.heap.size+1) 1 (.map none):=Qa l ζ;have bj:Fn m (w.heap.size+1) 1:=(l.frozen (by dsimp only;first | exact F | (simp;exact F))).trans (by first | exact k1 | (simp [go_sem,k1];done));have bc:At m (w.heap.size+1) 2 (.map none):=Qa l ζ;have bm:Fn m (w.heap.size+1) 2:=(l.frozen (by dsimp only;first | exact F | (simp;exact F))).trans (by first | exact k2 | (simp [go_sem,k2];done));have be:At m (w.heap.size+1) 3 SN:=Qa l ζ;have bn:Fn m (w.heap.size+1) 3:=(l.frozen (by dsimp only;first | exact F | (simp;exact F))).trans (by first | exact k3 | (simp [go_sem,k3];done));have bg:At m (w.heap.size+1) 4 SN:=Qa l ζ;have bo:Fn m (w.heap.size+1) 4:=(l.frozen (by dsimp only;first | exact F | (simp;exact F))).trans (by first | exact k4 | (simp [go_sem,k4];done));have hq:Bl E m:=(by with_reducible (first | exact l | exact Jb l | exact Jb (Jb l)));have aa:=Hd hq;have br:=Bt ac;have bs:=Bt ab;clear l hq))
   all_goals
    go_wp2;refine bodyPost_ret (v:=.tuple #[.agg #[.slice A L.length k,.map (some B),.map (some C),.slice (Az u) L.length z,.slice pa L.length pc],.func (.func 187) #[] #[.pointer (Az bf)],.bool bh]) (by simp [results,Tryz.results36,go_sem, *]) rfl ?_;refine ofTv_of g.out.2.2 p.out.2.1 (r:=w.heap.size+1) (base:=base) ?_ ?_
    ·have b5:=(p.out.2.2.kept g.out.2.1).kept aa.out;with_reducible repeat' (first | exact b5 | refine PX.set ?_ _ _)
    ·intro ax;obtain ⟨gh,fh,ea,en,hz,az,bp⟩:=HV.out ax
     have b6:HX m (w.heap.size+1) bf gh L.length hc fh:=by
      refine ⟨?_,fun i hi=>Qa aa.out (hz i hi).1, ?_, ?_⟩
      ·rw [← ea,← en];exact a8.out.1
      ·have:=a8.out.2;omega
      ·have:=au.out;omega
     refine ⟨gh,hc,fh, ?_,az⟩;with_reducible repeat' (first | exact b6 | refine HX.set ?_ _ _)
 ·have CS:=Hd (fun (V:World)=>spread_len V L.length k B C Y z A mp hmn);have ar:=Hd hmn;clear hmn;go_upto_region 5 with (go_at_call 96;refine (CS.out _).mono ?_;rintro e f ⟨rfl,j⟩;have b:=Hd (Qc d.out.1 j);clear j)
  clear D q1 q2 x4 zq zx CS;have d0:At f (w.heap.size+1) 0 SN:=Qa b.out δ;have d1:At f (w.heap.size+1) 1 (.map none):=Qa b.out δ;have d2:At f (w.heap.size+1) 2 (.map none):=Qa b.out δ;have d3:At f (w.heap.size+1) 3 SN:=Qa b.out δ;have d4:At f (w.heap.size+1) 4 SN:=Qa b.out δ;have F:=Bt d0;have k0:Fn f (w.heap.size+1) 0:=(Below.frozen b.out ξ).trans δ;have k1:Fn f (w.heap.size+1) 1:=(Below.frozen b.out ξ).trans δ;have k2:Fn f (w.heap.size+1) 2:=(Below.frozen b.out ξ).trans δ;have k3:Fn f (w.heap.size+1) 3:=(Below.frozen b.out ξ).trans δ;have k4:Fn f (w.heap.size+1) 4:=(Below.frozen b.out ξ).trans δ;go_wp2;refine bodyPost_ret (v:=.tuple #[.agg #[SN,.map none,.map none,SN,SN],.nilFunc,.bool false]) (by simp [results,Tryz.results36,go_sem, *]) rfl (Or.inl ⟨⟨none,0,0,none,none,none,0,0,none,0,0,_,rfl, ?_,Or.inl rfl⟩,fun h=>ar.out h.1⟩);with_reducible repeat' (first | exact Qc β2 b.out | refine Qh ?_ ?_ | refine Qb ?_)
  all_goals (dsimp only;omega)
end Go.Proofs.YtnpboeodhpenmaaGreatDoor
