/- A part of it. -/
import Derived.Test.YtnpboeodhpenmaaGreatDoorQlaz
import Derived.Test.YtnpboeodhpenmaaGreatDoorQlbe
set_option maxRecDepth 100000
set_option maxHeartbeats 40000000
namespace Go.Proofs.YtnpboeodhpenmaaGreatDoor
open Go.RowKit Go.ChangeMaps
variable {a c d i j n r:Nat} {w:World} {h:Nat→Int} {M:Nat→M6} {L pl:List T3} {kd:E4→Int} {v:Value}
def OnTo (kd:E4→Int) (L:List T3) (M:Nat→M6) (ad:Option Addr) (cc ra rk:Nat) (w w':World) (e:Ending):Prop:=(∃ z0 k0 d0 m1 m2 z3 k3 d3 z4 k4 d4,e=.returned (.tuple #[.agg #[.slice z0 k0 d0,.map m1,.map m2,.slice z3 k3 d3,.slice z4 k4 d4],.bool false])∧¬ MOk kd L (tz M)∧Bl w w')
   ∨ ∃ gn cn pa' pc',e=.returned (.tuple #[.agg #[.slice ad L.length cc,.map (some ra),.map (some rk),.slice (Az gn) L.length cn,.slice pa' L.length pc'],.bool true])∧MOk kd L (tz M)∧PileAt w' ad cc ra rk gn cn pa' pc' L kd (tz M)∧Bl w w'
theorem may_no (W H:Int) (a b l p:Option Addr) (zs:List Int) (g n h k j o m:Nat) (w:World) (d:Hid (∀ V:World,Bl w V→Cl 36 #[.agg #[I W,I H,.slice a zs.length g,.slice b n h,.slice l k j,.slice p o m]] V fun e w'=>OfNo V w' e)) :
  Rt 8 #[.agg #[I W,I H,.slice a zs.length g,.slice b n h,.slice l k j,.slice p o m]] w (.bool false):=by
 go_enter Tryz.func8,Tryz.ntmps8;go_wp2_with (go_at_call 36;refine (d.out _ Θ).mono ?_;rintro e w1 ⟨z0,k0,d0,r,s,z3,k3,d3,z4,q,d4,f,rfl,i⟩;have c:=Hd (Qc β1 i);clear i)
 go_ret;refine ⟨rfl, ?_⟩;with_reducible repeat' (first | exact c.out | refine Qh ?_ ?_ | refine Qb ?_)
 all_goals (have:=c.out.size;first | omega | (dsimp only;omega))
theorem may_ok (W H:Int) (a b u y:Option Addr) (zs:List Int) (p n q t s x v:Nat) (kd:E4→Int) (L:List T3) (M:Nat→M6) (h:Nat→Int) (w:World) (d:Hid (∀ V:World,Bl w V→Cl 36 #[.agg #[I W,I H,.slice a zs.length p,.slice b n q,.slice u t s,.slice y x v]] V fun e w'=>∃ f k m o j i pa l g,e=.returned (.tuple #[.agg #[.slice f L.length k,.map (some m),.map (some o),.slice (Az j) L.length i,.slice pa L.length l],ABv g,.bool true])∧PileAt w' f k m o j i pa l L kd M∧Hg w' g L.length h∧Bl V w')) :
  Rt 8 #[.agg #[I W,I H,.slice a zs.length p,.slice b n q,.slice u t s,.slice y x v]] w (.bool true):=by
 go_enter Tryz.func8,Tryz.ntmps8;go_wp2_with (go_at_call 36;refine (d.out _ Θ).mono ?_;rintro e w1 ⟨f,k,m,o,j,i,pa,l,g,rfl,_,_,r⟩;have c:=Hd (Qc β1 r);clear r)
 go_ret;refine ⟨rfl, ?_⟩;with_reducible repeat' (first | exact c.out | refine Qh ?_ ?_ | refine Qb ?_)
 all_goals (have:=c.out.size;first | omega | (dsimp only;omega))
theorem turn_no (W H:Int) (a b p z:Option Addr) (zs:List Int) (k n l o m y x:Nat) (w:World) (h:Hid (∀ V:World,Bl w V→Cl 36 #[.agg #[I W,I H,.slice a zs.length k,.slice b n l,.slice p o m,.slice z y x]] V fun e w'=>OfNf V w' e)) :
  Rt 11 #[.agg #[I W,I H,.slice a zs.length k,.slice b n l,.slice p o m,.slice z y x]] w (.tuple #[.agg #[I 0,I 0,SN,SN,SN,SN],I 10]):=by
 go_enter Tryz.func11,Tryz.ntmps11;go_upto_region 2 with (go_at_call 36;refine (h.out _ Ψ).mono ?_;rintro e w1 ⟨z0,k0,d0,E,F,z3,k3,d3,z4,D,d4,f,rfl,d,B⟩;have i:=Hd (Qc β2 d);have A:Hid ((At w1 (w.heap.size+1) 0 (I 0)∧At w1 (w.heap.size+1) 1 (I 0)∧At w1 (w.heap.size+1) 2 SN∧At w1 (w.heap.size+1) 3 SN∧At w1 (w.heap.size+1) 4 SN∧At w1 (w.heap.size+1) 5 SN)∧(∀ q,Fn w1 (w.heap.size+1) q)):=⟨⟨Qa d δ,Qa d δ,Qa d δ,Qa d δ,Qa d δ,Qa d δ⟩,fun q=>(Fo (a:=⟨w.heap.size+1,q,none⟩) (d.block (w.heap.size+1) ξ)).trans (World.frozen?_alloc_at _ _ _ q ξ)⟩;clear d;rcases B with rfl | ⟨C,rfl⟩)
 all_goals (try (go_upto_region 2 with fail))
 all_goals
  refine Qi (fun j hW1=>?_)
  have c:Bl w1 j:=by
   rw [hW1];with_reducible repeat' (first | exact Qe _ | refine Qh ?_ ?_ | refine Qb ?_)
   all_goals (first | omega | (dsimp only;omega) | (simp;done) | (simp;omega))
  obtain ⟨⟨r0,r1,r2,r3,r,s⟩,t⟩:=A.out;have u:=Bt r0;replace t:∀ q,Fn j (w.heap.size+1) q:=fun q=>(Fo (a:=⟨w.heap.size+1,q,none⟩) (c.block (w.heap.size+1) u)).trans (t q);replace r0:=Qa c r0;replace r1:=Qa c r1;replace r2:=Qa c r2;replace r3:=Qa c r3;replace r:=Qa c r;replace s:=Qa c s;replace u:w.heap.size+1<j.heap.size:=bk r0;have g:=Hd (Qc i.out c);clear hW1 c;go_wp2;refine bodyPost_ret (v:=.tuple #[.agg #[I 0,I 0,SN,SN,SN,SN],I 10]) (by simp [results,Tryz.results11,go_sem, *]) rfl ⟨rfl, ?_⟩;with_reducible repeat' (first | exact g.out | refine Qh ?_ ?_ | refine Qb ?_)
  all_goals (have:=g.out.size;first | omega | (dsimp only;omega) | (simp;done) | (simp;omega))
theorem turn_big (W H:Int) (a b Y sp:Option Addr) (zs:List Int) (O n P X U sl Z:Nat) (kd:E4→Int) (L:List T3) (M:Nat→M6) (h:Nat→Int) (w:World) (G:Hid (∀ V:World,Bl w V→Cl 36 #[.agg #[I W,I H,.slice a zs.length O,.slice b n P,.slice Y X U,.slice sp sl Z]] V fun e w'=>∃ r k s x A z pa E N,e=.returned (.tuple #[.agg #[.slice r L.length k,.map (some s),.map (some x),.slice (some ⟨A,0,none⟩) L.length z,.slice pa L.length E],ABv N,.bool true])∧PileAt w' r k s x A z pa E L kd M∧Hg w' N L.length h∧Bl V w')) (hs:Steps w) (h0:0<L.length) (hL:L.length≤300) (T:∀ t∈L,(0≤t.1∧t.1≤8)∧(0≤t.2.1∧t.2.1≤8)∧(0≤t.2.2∧t.2.2≤3)) (R:∀ i,i<L.length→MOk1 L M i) (a8:¬ MOk kd L (tz M)) :
  Rt 11 #[.agg #[I W,I H,.slice a zs.length O,.slice b n P,.slice Y X U,.slice sp sl Z]] w (.tuple #[.agg #[I 0,I 0,SN,SN,SN,SN],I 2]):=by
 have HR:Hid (Steps w∧(∀ t∈L,(0≤t.1∧t.1≤8)∧(0≤t.2.1∧t.2.1≤8)∧(0≤t.2.2∧t.2.2≤3))∧∀ i,i<L.length→MOk1 L M i):=⟨hs,T,R⟩;clear hs T R;unfold ABv at G;go_enter Tryz.func11,Tryz.ntmps11;go_upto_region 2 with (go_at_call 36;refine (G.out _ Ψ).mono ?_;rintro e w1 ⟨r,k,s,x,A,z,pa,E,N,rfl,hP,hH,hb⟩;have H1:Hid (PileAt w1 r k s x A z pa E L kd M∧Hg w1 N L.length h∧Bl w w1):=⟨hP,hH,Qc β2 hb⟩;have K:Hid _:=hb;clear hP hH hb)
 refine Qi (fun d hW1=>?_);obtain ⟨o,B⟩:∃ b,b=w1.heap.size:=⟨_,rfl⟩
 have l:Hid (Bl w1 d):=by
  show Bl w1 d
  (try simp only [At,I,Fn,Az,Ad]);rw [hW1]
  with_reducible repeat' (first | exact Qe _ | refine Qh ?_ ?_ | refine Qb ?_)
  all_goals (first | omega | (dsimp only;omega) | (simp;done) | (simp;omega))
 have X1:Hid ((d.cell? ⟨o,0,none⟩=some (.slice r L.length k)∧d.cell? ⟨o,1,none⟩=some (.map (some s))∧d.cell? ⟨o,2,none⟩=some (.map (some x))∧d.cell? ⟨o,3,none⟩=some (.slice (some ⟨A,0,none⟩) L.length z)∧d.cell? ⟨o,4,none⟩=some (.slice pa L.length E))∧d.cell? ⟨o+1,0,none⟩=some (ABv N)):=by
  (try simp only [At,I,Fn,Az,Ad]);rw [hW1,B]
  unfold ABv;refine ⟨⟨?_, ?_, ?_, ?_, ?_⟩, ?_⟩ <;> simp [go_sem]
 have Y1:Hid ((d.cell? ⟨w.heap.size,0,none⟩=some (I W)∧d.cell? ⟨w.heap.size,1,none⟩=some (I H)∧d.cell? ⟨w.heap.size,2,none⟩=some (.slice a zs.length O)∧d.cell? ⟨w.heap.size,3,none⟩=some (.slice b n P))∧(d.cell? ⟨w.heap.size+1,0,none⟩=some (I 0)∧d.cell? ⟨w.heap.size+1,1,none⟩=some (I 0)∧d.cell? ⟨w.heap.size+1,2,none⟩=some SN∧d.cell? ⟨w.heap.size+1,3,none⟩=some SN∧d.cell? ⟨w.heap.size+1,4,none⟩=some SN∧d.cell? ⟨w.heap.size+1,5,none⟩=some SN)∧∀ q,d.frozen? ⟨w.heap.size+1,q,none⟩=false):=by
  have hk:=K.out;have m:∀ {b9 o9:Nat} {u:Value},((w.alloc (.cells #[I W,I H,.slice a zs.length O,.slice b n P,.slice Y X U,.slice sp sl Z] 29)).alloc (.cells #[I 0,I 0,SN,SN,SN,SN] 29)).cell? ⟨b9,o9,none⟩=some u→d.cell? ⟨b9,o9,none⟩=some u:=fun hc=>Qa l.out (Qa hk hc);refine ⟨⟨m δ,m δ,m δ,m δ⟩,⟨m δ,m δ,m δ,m δ,m δ,m δ⟩,fun q=>?_⟩;have hz:w.heap.size+1<((w.alloc (.cells #[I W,I H,.slice a zs.length O,.slice b n P,.slice Y X U,.slice sp sl Z] 29)).alloc (.cells #[I 0,I 0,SN,SN,SN,SN] 29)).heap.size:=ξ;have h8:=(Fo (a:=⟨w.heap.size+1,q,none⟩) (hk.block (w.heap.size+1) hz));have h9:=(Fo (a:=⟨w.heap.size+1,q,none⟩) (l.out.block (w.heap.size+1) (Nl hz hk.size)));(try simp only [At,I,Fn,Az,Ad]);rw [h9,h8]
  exact World.frozen?_alloc_at _ _ _ q ξ
 (try simp only [At,I,Fn,Az,Ad]);rw [← B]
 clear hW1 B K;obtain ⟨⟨p,x1,x2,x3,F⟩,x5⟩:=X1.out;have zB:o<d.heap.size:=bk p
 have a2:Hid (∀ V:World,Rt 45 #[.agg #[I 0,I 0]] V (.tuple #[.agg #[I (-1),I 0,I 0,I 1,I 0,I 0],I 0])):=fun V=>by
  have:=Kf 0 0 V ψ ψ;exact this
 go_upto_region 5 with (go_at_call 45;refine (a2.out _).mono ?_;rintro e w2 ⟨rfl,g⟩;have a6:Hid (Bl d w2):=g;replace p:=Qa g p;replace x1:=Qa g x1;replace x2:=Qa g x2;replace x3:=Qa g x3;replace F:=Qa g F;replace zB:o<w2.heap.size:=bk p;clear g)
 refine Qi (fun j D=>?_);obtain ⟨y,C⟩:∃ b,b=w2.heap.size:=⟨_,rfl⟩
 have c:Hid (Bl d j):=by
  show Bl d j
  refine Qc a6.out ?_;(try simp only [At,I,Fn,Az,Ad]);rw [D]
  with_reducible repeat' (first | exact Qe _ | refine Qh ?_ ?_ | refine Qb ?_)
  all_goals (first | omega | (dsimp only;omega) | (simp;done) | (simp;omega))
 have X3:Hid (j.cell? ⟨y,0,none⟩=some (I (-1))∧j.cell? ⟨y,1,none⟩=some (I 0)∧j.cell? ⟨y,2,none⟩=some (I 0)∧j.cell? ⟨y,3,none⟩=some (I 1)∧j.cell? ⟨y,4,none⟩=some (I 0)∧j.cell? ⟨y,5,none⟩=some (I 0)):=by
  (try simp only [I]);rw [D,C]
  refine ⟨?_, ?_, ?_, ?_, ?_, ?_⟩ <;> simp [go_sem]
 (try simp only [At,I,Fn,Az,Ad]);rw [← C]
 clear D C p x1 x2 x3 F x5 zB;obtain ⟨⟨p,x1,x2,x3,F⟩,x5⟩:=X1.out;replace p:=Qa c.out p;replace x1:=Qa c.out x1;replace x2:=Qa c.out x2;replace x3:=Qa c.out x3;replace F:=Qa c.out F;have zB:o<j.heap.size:=bk p;obtain ⟨y0,y1,y2,y3,y4,y5⟩:=X3.out;have zC:y<j.heap.size:=bk y0;have J:Hid (Cl 46 #[.agg #[.slice r L.length k,.map (some s),.map (some x),.slice (some ⟨A,0,none⟩) L.length z,.slice pa L.length E],.agg #[I (-1),I 0,I 0,I 1,I 0,I 0]] j fun e w'=>OnTo kd L M r k s x j w' e):=onward_any j k s x A z E r pa L kd M ((H1.out.1.kept l.out).kept c.out) (HR.out.1.kept (Qc H1.out.2.2 (Qc l.out c.out))) h0 hL HR.out.2.1 HR.out.2.2;go_wp2_with (go_at_call 46;refine J.out.mono ?_;rintro e w5 a7;obtain ⟨z0,k0,d0,m1,m2,z3,k3,d3,z4,k4,d4,rfl,_,f⟩:=a7.resolve_right (fun q=>by obtain ⟨_,_,_,_,_,q,_⟩:=q;exact a8 q);have H5:Hid (Bl j w5):=f;obtain ⟨_,⟨r0,r1,r2,r3,r4,r5⟩,rf⟩:=Y1.out;replace r0:=Qa f (Qa c.out r0);replace r1:=Qa f (Qa c.out r1);replace r2:=Qa f (Qa c.out r2);replace r3:=Qa f (Qa c.out r3);replace r4:=Qa f (Qa c.out r4);replace r5:=Qa f (Qa c.out r5);replace rf:∀ q,w5.frozen? ⟨w.heap.size+1,q,none⟩=false:=(fun q=>by have z9:=bk Y1.out.2.1.1;dsimp only at z9;(try simp only [At,I,Fn,Az,Ad]);rw [Fo (a:=⟨w.heap.size+1,q,none⟩) (f.block (w.heap.size+1) (Nl z9 c.out.size)),Fo (a:=⟨w.heap.size+1,q,none⟩) (c.out.block (w.heap.size+1) z9)];exact rf q);have rz:w.heap.size+1<w5.heap.size:=bk r0;clear f)
 refine bodyPost_ret (v:=.tuple #[.agg #[I 0,I 0,SN,SN,SN,SN],I 2]) (by simp [results,Tryz.results11,go_sem,Ca, *]) rfl ⟨rfl, ?_⟩;have Q:Bl w w5:=Qc H1.out.2.2 (Qc l.out (Qc c.out H5.out));with_reducible repeat' (first | exact Q | refine Qh ?_ ?_ | refine Qb ?_)
 all_goals (have:=Q.size;first | omega | (dsimp only;omega) | (simp;done) | (simp;omega))
theorem turn_ok (W H:Int) (a b mp sp:Option Addr) (zs:List Int) (ca n cb mn mc sl sc:Nat) (ks:List Int) (kd:E4→Int) (L:List T3) (M:Nat→M6) (h:Nat→Int) (w:World) (aa:Hid (∀ V:World,Bl w V→Cl 36 #[.agg #[I W,I H,.slice a zs.length ca,.slice b n cb,.slice mp mn mc,.slice sp sl sc]] V fun e w'=>∃ C k D E gm cm pa pc bf,e=.returned (.tuple #[.agg #[.slice C L.length k,.map (some D),.map (some E),.slice (some ⟨gm,0,none⟩) L.length cm,.slice pa L.length pc],ABv bf,.bool true])∧PileAt w' C k D E gm cm pa pc L kd M∧Hg w' bf L.length h∧Bl V w')) (hs:Steps w) (h0:0<L.length) (hL:L.length≤300) (am:∀ t∈L,(0≤t.1∧t.1≤8)∧(0≤t.2.1∧t.2.1≤8)∧(0≤t.2.2∧t.2.2≤3)) (ag:∀ i,i<L.length→MOk1 L M i) (hz:Row w a zs) (hk:Row w b ks) (hn:ks.length=n*5) (h1:zs.length≤17592186044416) (h2:n≤3518437208883) (ha:a=none∨∃ p off,a=some ⟨p,off,none⟩) (hb:b=none∨∃ p off,b=some ⟨p,off,none⟩)
  (X:∀ i j,i<L.length→j<L.length→(pls L (tz M) L.length).getD i (0,0,0)=(pls L (tz M) L.length).getD j (0,0,0)→i≠j→-h i≠-h j) (ao:MOk kd L (tz M)) :
  Cl 11 #[.agg #[I W,I H,.slice a zs.length ca,.slice b n cb,.slice mp mn mc,.slice sp sl sc]] w fun e w'=>∃ a' K b' N g c t u U,e=.returned (.tuple #[.agg #[I W,I H,.slice a' zs.length K,.slice b' n N,.slice (some ⟨g,0,none⟩) L.length c,.slice t (List.length U) u],I 0])∧RowF w' w.heap.size a' zs∧RowF w' w.heap.size b' ks∧MRow w' g L.length (tz M)∧w.heap.size≤g∧Heap L.length (plcA (pls L (tz M) L.length)) (fun i=>-h i) U∧SRowF w' w.heap.size t (U.map fun s=>(s.1,tgn L s.2))∧Bl w w':=by
 have HR:Hid (Steps w∧(∀ t∈L,(0≤t.1∧t.1≤8)∧(0≤t.2.1∧t.2.1≤8)∧(0≤t.2.2∧t.2.2≤3))∧∀ i,i<L.length→MOk1 L M i):=⟨hs,am,ag⟩;have HZ:Hid (Row w a zs∧Row w b ks∧(∀ i j,i<L.length→j<L.length→(pls L (tz M) L.length).getD i (0,0,0)=(pls L (tz M) L.length).getD j (0,0,0)→i≠j→-h i≠-h j)):=⟨hz,hk,X⟩;clear hs am ag hz hk X;unfold ABv at aa;go_enter Tryz.func11,Tryz.ntmps11;go_upto_region 2 with (go_at_call 36;refine (aa.out _ Ψ).mono ?_;rintro e w1 ⟨C,k,D,E,gm,cm,pa,pc,bf,rfl,hP,hH,hb⟩;have H1:Hid (PileAt w1 C k D E gm cm pa pc L kd M∧Hg w1 bf L.length h∧Bl w w1):=⟨hP,hH,Qc β2 hb⟩;have ac:Hid _:=hb;clear hP hH hb)
 refine Qi (fun f hW1=>?_);obtain ⟨B,a2⟩:∃ b,b=w1.heap.size:=⟨_,rfl⟩
 have z:Hid (Bl w1 f):=by
  show Bl w1 f
  (try simp only [At,I,Fn,Az,Ad]);rw [hW1]
  with_reducible repeat' (first | exact Qe _ | refine Qh ?_ ?_ | refine Qb ?_)
  all_goals (first | omega | (dsimp only;omega) | (simp;done) | (simp;omega))
 have X1:Hid ((f.cell? ⟨B,0,none⟩=some (.slice C L.length k)∧f.cell? ⟨B,1,none⟩=some (.map (some D))∧f.cell? ⟨B,2,none⟩=some (.map (some E))∧f.cell? ⟨B,3,none⟩=some (.slice (some ⟨gm,0,none⟩) L.length cm)∧f.cell? ⟨B,4,none⟩=some (.slice pa L.length pc))∧f.cell? ⟨B+1,0,none⟩=some (ABv bf)):=by
  (try simp only [At,I,Fn,Az,Ad]);rw [hW1,a2]
  unfold ABv;refine ⟨⟨?_, ?_, ?_, ?_, ?_⟩, ?_⟩ <;> simp [go_sem]
 have Y1:Hid ((f.cell? ⟨w.heap.size,0,none⟩=some (I W)∧f.cell? ⟨w.heap.size,1,none⟩=some (I H)∧f.cell? ⟨w.heap.size,2,none⟩=some (.slice a zs.length ca)∧f.cell? ⟨w.heap.size,3,none⟩=some (.slice b n cb))∧(f.cell? ⟨w.heap.size+1,0,none⟩=some (I 0)∧f.cell? ⟨w.heap.size+1,1,none⟩=some (I 0)∧f.cell? ⟨w.heap.size+1,2,none⟩=some SN∧f.cell? ⟨w.heap.size+1,3,none⟩=some SN∧f.cell? ⟨w.heap.size+1,4,none⟩=some SN∧f.cell? ⟨w.heap.size+1,5,none⟩=some SN)∧∀ q,f.frozen? ⟨w.heap.size+1,q,none⟩=false):=by
  have hk:=ac.out;have J:∀ {b9 o9:Nat} {u:Value},((w.alloc (.cells #[I W,I H,.slice a zs.length ca,.slice b n cb,.slice mp mn mc,.slice sp sl sc] 29)).alloc (.cells #[I 0,I 0,SN,SN,SN,SN] 29)).cell? ⟨b9,o9,none⟩=some u→f.cell? ⟨b9,o9,none⟩=some u:=fun hc=>Qa z.out (Qa hk hc);refine ⟨⟨J δ,J δ,J δ,J δ⟩,⟨J δ,J δ,J δ,J δ,J δ,J δ⟩,fun q=>?_⟩;have hz:w.heap.size+1<((w.alloc (.cells #[I W,I H,.slice a zs.length ca,.slice b n cb,.slice mp mn mc,.slice sp sl sc] 29)).alloc (.cells #[I 0,I 0,SN,SN,SN,SN] 29)).heap.size:=ξ;have h8:=(Fo (a:=⟨w.heap.size+1,q,none⟩) (hk.block (w.heap.size+1) hz));have h9:=(Fo (a:=⟨w.heap.size+1,q,none⟩) (z.out.block (w.heap.size+1) (Nl hz hk.size)));(try simp only [At,I,Fn,Az,Ad]);rw [h9,h8]
  exact World.frozen?_alloc_at _ _ _ q ξ
 (try simp only [At,I,Fn,Az,Ad]);rw [← a2]
 clear hW1 a2 ac;obtain ⟨⟨A,x1,x2,x3,R⟩,x5⟩:=X1.out;have zB:B<f.heap.size:=bk A
 have ap:Hid (∀ V:World,Rt 45 #[.agg #[I 0,I 0]] V (.tuple #[.agg #[I (-1),I 0,I 0,I 1,I 0,I 0],I 0])):=fun V=>by
  have:=Kf 0 0 V ψ ψ;exact this
 go_upto_region 5 with (go_at_call 45;refine (ap.out _).mono ?_;rintro e w2 ⟨rfl,x⟩;have ar:Hid (Bl f w2):=x;replace A:=Qa x A;replace x1:=Qa x x1;replace x2:=Qa x x2;replace x3:=Qa x x3;replace R:=Qa x R;replace zB:B<w2.heap.size:=bk A;clear x)
 refine Qi (fun y a7=>?_);obtain ⟨Z,G⟩:∃ b,b=w2.heap.size:=⟨_,rfl⟩
 have o:Hid (Bl f y):=by
  show Bl f y
  refine Qc ar.out ?_;(try simp only [At,I,Fn,Az,Ad]);rw [a7]
  with_reducible repeat' (first | exact Qe _ | refine Qh ?_ ?_ | refine Qb ?_)
  all_goals (first | omega | (dsimp only;omega) | (simp;done) | (simp;omega))
 have X3:Hid (y.cell? ⟨Z,0,none⟩=some (I (-1))∧y.cell? ⟨Z,1,none⟩=some (I 0)∧y.cell? ⟨Z,2,none⟩=some (I 0)∧y.cell? ⟨Z,3,none⟩=some (I 1)∧y.cell? ⟨Z,4,none⟩=some (I 0)∧y.cell? ⟨Z,5,none⟩=some (I 0)):=by
  (try simp only [I]);rw [a7,G]
  refine ⟨?_, ?_, ?_, ?_, ?_, ?_⟩ <;> simp [go_sem]
 (try simp only [At,I,Fn,Az,Ad]);rw [← G]
 clear a7 G A x1 x2 x3 R x5 zB;obtain ⟨⟨A,x1,x2,x3,R⟩,x5⟩:=X1.out;replace A:=Qa o.out A;replace x1:=Qa o.out x1;replace x2:=Qa o.out x2;replace x3:=Qa o.out x3;replace R:=Qa o.out R;have zB:B<y.heap.size:=bk A;obtain ⟨y0,y1,y2,y3,y4,y5⟩:=X3.out;have zC:Z<y.heap.size:=bk y0;have ab:Hid (Cl 46 #[.agg #[.slice C L.length k,.map (some D),.map (some E),.slice (some ⟨gm,0,none⟩) L.length cm,.slice pa L.length pc],.agg #[I (-1),I 0,I 0,I 1,I 0,I 0]] y fun e w'=>OnTo kd L M C k D E y w' e):=onward_any y k D E gm cm pc C pa L kd M ((H1.out.1.kept z.out).kept o.out) (HR.out.1.kept (Qc H1.out.2.2 (Qc z.out o.out))) h0 hL HR.out.2.1 HR.out.2.2;go_upto_region 6 with (go_at_call 46;refine ab.out.mono ?_;rintro e w5 au;obtain ⟨gn,cn,P,Q,rfl,_,ai,ak⟩:=au.resolve_left (fun q=>by obtain ⟨_,_,_,_,_,_,_,_,_,_,_,_,q,_⟩:=q;exact q ao);have H5:Hid (PileAt w5 C k D E gn cn P Q L kd (tz M)∧Bl y w5):=⟨ai,ak⟩;clear ai ak)
 refine Qi (fun l a8=>?_);obtain ⟨B9,a6⟩:∃ b,b=w5.heap.size:=⟨_,rfl⟩
 have F:Hid (Bl w5 l):=by
  show Bl w5 l
  (try simp only [At,I,Fn,Az,Ad]);rw [a8]
  with_reducible repeat' (first | exact Qe _ | refine Qh ?_ ?_ | refine Qb ?_)
  all_goals (first | omega | (dsimp only;omega) | (simp;done) | (simp;omega))
 have X6:Hid (l.cell? ⟨B9,0,none⟩=some (.slice C L.length k)∧l.cell? ⟨B9,1,none⟩=some (.map (some D))∧l.cell? ⟨B9,2,none⟩=some (.map (some E))∧l.cell? ⟨B9,3,none⟩=some (.slice (some ⟨gn,0,none⟩) L.length cn)∧l.cell? ⟨B9,4,none⟩=some (.slice P L.length Q)):=by
  (try simp only [At,I,Fn,Az,Ad]);rw [a8,a6]
  refine ⟨?_, ?_, ?_, ?_, ?_⟩ <;> simp [go_sem]
 (try simp only [At,I,Fn,Az,Ad]);rw [← a6]
 clear a8 a6 A x1 x2 x3 R x5 zB y0 y1 y2 y3 y4 y5 zC;have d:Hid (Bl f l∧Bl w l):=⟨Qc o.out (Qc H5.out.2 F.out),Qc H1.out.2.2 (Qc z.out (Qc o.out (Qc H5.out.2 F.out)))⟩;obtain ⟨A,x1,x2,x3,R⟩:=X6.out;have zB:B9<l.heap.size:=bk A;obtain ⟨⟨s0,s1,s2,s3⟩,_⟩:=Y1.out;replace s0:=Qa d.out.1 s0;replace s1:=Qa d.out.1 s1;replace s2:=Qa d.out.1 s2;replace s3:=Qa d.out.1 s3;have zS:w.heap.size<l.heap.size:=bk s0
 have aq:Hid (Cl 47 #[.agg #[.slice C L.length k,.map (some D),.map (some E),.slice (some ⟨gn,0,none⟩) L.length cn,.slice P L.length Q],.agg #[I W,I H,.slice a zs.length ca,.slice b n cb],.func (.func 48) #[] #[.pointer (some ⟨B+1,0,none⟩)]] l fun e w'=>StateTo l w' W H n L.length zs ks (tz M) L (plcA (pls L (tz M) L.length)) (fun i=>-h i) e) :=
  state_any l W H a b ca cb n zs ks C P k D E gn cn Q (tz M) L (pls L (tz M) L.length) (TBv (B+1)) (fun i=>-h i) (HZ.out.1.kept d.out.2) (HZ.out.2.1.kept d.out.2) hn h1 h2 ha hb (Yj _ _ _) (H5.out.1.kept F.out).tr.1 (H5.out.1.kept F.out).pl (H5.out.1.kept F.out).mr h0 hL
   (fun V hV=>turnSorts V (B+1) bf L.length h (Qa hV (Qa d.out.1 X1.out.2)) (((H1.out.2.1.kept z.out).kept d.out.1).kept hV) hL)
   (fun i j hi hj he av=>HZ.out.2.2 i j (by (try simp only [At,I,Fn,Az,Ad] at hi);rw [Yj] at hi;exact hi) (by (try simp only [At,I,Fn,Az,Ad] at hj);rw [Yj] at hj;exact hj) he av)
 go_wp2_with (go_at_call 47;refine aq.out.mono ?_;rintro e Y ⟨a',K,b',N,g,c,t,u,U,rfl,hA,ae,ah,an,af,aj,r⟩;have T:Hid (RowF Y l.heap.size a' zs∧RowF Y l.heap.size b' ks∧MRow Y g L.length (tz M)∧l.heap.size≤g∧Heap L.length (plcA (pls L (tz M) L.length)) (fun i=>-h i) U∧SRowF Y l.heap.size t (U.map fun s=>(s.1,tgn L s.2))∧Bl l Y):=⟨hA,ae,ah,an,af,aj,r⟩;obtain ⟨_,⟨r0,r1,r2,r3,r4,r5⟩,rf⟩:=Y1.out;have zr:w.heap.size+1<l.heap.size:=bk (Qa d.out.1 r0);replace r0:=Qa r (Qa d.out.1 r0);replace r1:=Qa r (Qa d.out.1 r1);replace r2:=Qa r (Qa d.out.1 r2);replace r3:=Qa r (Qa d.out.1 r3);replace r4:=Qa r (Qa d.out.1 r4);replace r5:=Qa r (Qa d.out.1 r5);replace rf:∀ q,Y.frozen? ⟨w.heap.size+1,q,none⟩=false:=(fun q=>by have z9:=bk Y1.out.2.1.1;dsimp only at z9;(try simp only [At,I,Fn,Az,Ad]);rw [Fo (a:=⟨w.heap.size+1,q,none⟩) (r.block (w.heap.size+1) zr),Fo (a:=⟨w.heap.size+1,q,none⟩) (d.out.1.block (w.heap.size+1) z9)];exact rf q);have rz:w.heap.size+1<Y.heap.size:=bk r0;clear hA ae ah an af aj r A x1 x2 x3 R zB s0 s1 s2 s3 zS)
 refine bodyPost_ret (v:=.tuple #[.agg #[I W,I H,.slice a' zs.length K,.slice b' n N,.slice (some ⟨g,0,none⟩) L.length c,.slice t (List.length U) u],I 0]) (by simp [results,Tryz.results11,go_sem, *]) rfl ?_;have O:w.heap.size≤l.heap.size:=d.out.2.size;have hp:∀ {q:Nat},(⟨w.heap.size+1,q,none⟩:Addr).block<l.heap.size:=fun {q}=>zr;have m:g≠w.heap.size+1:=by have:=T.out.2.2.2.1;omega
 refine ⟨a',K,b',N,g,c,t,u,U,rfl,RowF.low ?_ O,RowF.low ?_ O, ?_,Nt O T.out.2.2.2.1,T.out.2.2.2.2.1,SRowF.low ?_ O, ?_⟩
 ·exact ((((((T.out.1.set hp).set hp).set hp).set hp).set hp).set hp)
 ·exact ((((((T.out.2.1.set hp).set hp).set hp).set hp).set hp).set hp)
 ·exact ((((((T.out.2.2.1.set m).set m).set m).set m).set m).set m)
 ·exact ((((((T.out.2.2.2.2.2.1.set hp).set hp).set hp).set hp).set hp).set hp)
 ·have G:Bl w Y:=Qc d.out.2 T.out.2.2.2.2.2.2;with_reducible repeat' (first | exact G | refine Qh ?_ ?_ | refine Qb ?_)
  all_goals (first | omega | (dsimp only;omega) | (simp;done) | (simp;omega))
theorem neq27q (a b c d p q r s:Int) (w:World) :
  (binOp .neq 42 (.agg #[I a,I b,I c,I d]) (.agg #[I p,I q,I r,I s])).run Tryz.prog w=.ok (.bool (!sameB a b c d p q r s)) w:=by
 by_cases h1:a=p
 ·subst h1;by_cases h2:b=q
  ·subst h2;by_cases h3:c=r
   ·subst h3;by_cases h4:d=s
    ·subst h4;simp [go_sem,sameB]
    ·have e:(d == s)=false:=by simpa using h4
     simp [go_sem,sameB,e,h4]
   ·have e:(c == r)=false:=by simpa using h3
    simp [go_sem,sameB,e,h3]
  ·have e:(b == q)=false:=by simpa using h2
   simp [go_sem,sameB,e,h2]
 ·have e:(a == p)=false:=by simpa using h1
  simp [go_sem,sameB,e,h1]
def dq:Cq:=⟨(0,0,0,0),0,(0,0,0),0,(0,0,0),0,false⟩
abbrev kC (l:List Cq) (h:Nat→Int) (i k:Nat):Prop:=(l.getD i dq).e=(l.getD k dq).e∧(l.getD i dq).p=(l.getD k dq).p∧i≠k∧0<clD h (l.getD i dq) (l.getD k dq)
def kS (l:List Cq) (h:Nat→Int) (i:Nat) (A:List C5) (k:Nat):List C5:=if kC l h i k then insC A ((l.getD i dq).e,clD h (l.getD i dq) (l.getD k dq)) else A
def kF (l:List Cq) (h:Nat→Int) (i:Nat) (A:List C5):Nat→List C5
 | 0=>A
 | k+1=>kS l h i (kF l h i A k) k
def mS (l:List Cq) (h:Nat→Int) (i:Nat) (A:List C5):List C5:=if misD h (l.getD i dq)=true then insC A ((l.getD i dq).e,4) else A
def oF (l:List Cq) (h:Nat→Int):Nat→List C5
 | 0=>[]
 | i+1=>kF l h i (mS l h i (oF l h i)) l.length
theorem kF_len (l:List Cq) (h:Nat→Int) (i:Nat) (A:List C5):∀ k,(kF l h i A k).length≤A.length+k
 | 0=>Nr _
 | k+1=>by
  have:=kF_len l h i A k;unfold kF kS;split
  ·have:=insC_len ((l.getD i dq).e,clD h (l.getD i dq) (l.getD k dq)) (kF l h i A k);omega
  ·omega
theorem mS_len (l:List Cq) (h:Nat→Int) (i:Nat) (A:List C5):(mS l h i A).length≤A.length+1:=by
 unfold mS;split
 ·exact insC_len _ _
 ·omega
theorem oF_len (l:List Cq) (h:Nat→Int):∀ i,(oF l h i).length≤i*(l.length+1)
 | 0=>by simp [oF]
 | i+1=>by
  have h1:=oF_len l h i;have h2:=kF_len l h i (mS l h i (oF l h i)) l.length;have h3:=mS_len l h i (oF l h i);unfold oF;rw [Nat.add_mul,Nat.one_mul];omega
theorem hr_of {base:Nat} (d:w.ownsRow base 3 1 v n (hv h n)):∃ a c,v=.slice a n c∧(0<n→∃ g,a=Az g∧Hr w g 0 n h):=by
 rcases d.2 with ⟨h1,h2⟩ | ⟨g,b,e,h1,_,_,h3,_⟩
 ·exact ⟨none,0,by rw [h1,h2],fun h=>by omega⟩
 ·refine ⟨Az g,b,h1,fun _=>⟨g,rfl,fun q hq=>?_⟩⟩;subst h1;show World.cell? _ _=_
  rw [Nat.zero_add,d.cellAt _ γ];simp [hv,hq]
theorem clashesOf_any (W H:Int) (a0 c0 mp sp:Option Addr) (zl ad n U nn mc sl sc N:Nat) (l:List Cq) (h:Nat→Int) (w:World)
  (bq:Hid (∀ V:World,Bl w V→Cl 55 #[.agg #[I W,I H,.slice a0 zl ad,.slice c0 n U],.slice mp nn mc] V fun e w'=>∃ u,e=.returned u∧w'.ownsRow V.heap.size 136 14 u l.length (flatQ l)∧Bl V w'))
  (br:Hid (∀ V:World,Bl w V→Cl 56 #[.agg #[I W,I H,.slice a0 zl ad,.slice c0 n U,.slice mp nn mc,.slice sp sl sc]] V fun e w'=>∃ u,e=.returned u∧w'.ownsRow V.heap.size 3 1 u N (hv h N)∧Bl V w'))
  (hl:∀ x∈l,CqOk N x) (h0:∀ q,q<N→0≤h q) (hL:l.length≤768) :
  Cl 14 #[.agg #[I W,I H,.slice a0 zl ad,.slice c0 n U,.slice mp nn mc,.slice sp sl sc]] w fun e w'=>∃ v,e=.returned v∧w'.ownsRow w.heap.size 44 5 v (oF l h l.length).length (flatJ (oF l h l.length))∧Bl w w':=by
 have aa:=neq27q;have ab:=neq23;have HR:Hid ((∀ x∈l,CqOk N x)∧∀ q,q<N→0≤h q):=⟨hl,h0⟩;clear hl h0;go_enter Tryz.func14,Tryz.ntmps14;go_upto_region 1 with fail
 refine Qi (fun W0 hW0=>?_)
 have HX:Hid ((At W0 w.heap.size 0 (I W)∧At W0 w.heap.size 1 (I H)∧At W0 w.heap.size 2 (.slice a0 zl ad)∧At W0 w.heap.size 3 (.slice c0 n U)∧At W0 w.heap.size 4 (.slice mp nn mc)∧At W0 w.heap.size 5 (.slice sp sl sc))∧Bl w W0):=by
  rw [hW0];refine ⟨⟨?_, ?_, ?_, ?_, ?_, ?_⟩,Qb (Qe _)⟩ <;> simp [go_sem]
 obtain ⟨⟨x0,x1,x2,x3,x4,x5⟩,_⟩:=HX.out;have zb:=Bt x0;clear hW0;go_upto_region 2 with (go_at_call 55;refine (bq.out _ HX.out.2).mono ?_;rintro e w1 ⟨u1,rfl,bg,F⟩;obtain ⟨la,lc,rfl,bm⟩:=own_qrow bg;have H1:Hid (QRow w1 la l∧Bl W0 w1):=⟨bm,F⟩;replace x0:=Qa F x0;replace x1:=Qa F x1;replace x2:=Qa F x2;replace x3:=Qa F x3;replace x4:=Qa F x4;replace x5:=Qa F x5;replace zb:w.heap.size<w1.heap.size:=bk x0;clear bg F bm)
 go_upto_region 3 with (go_at_call 56;refine (br.out _ (Qc HX.out.2 H1.out.2)).mono ?_;rintro e d ⟨u2,rfl,bh,ap⟩;obtain ⟨ha,hc,rfl,bf⟩:=hr_of bh;have H2:Hid (QRow d la l∧(0<N→∃ g,ha=Az g∧Hr d g 0 N h)∧Bl w d):=⟨H1.out.1.kept ap,bf,Qc HX.out.2 (Qc H1.out.2 ap)⟩;clear bh ap bf x0 x1 x2 x3 x4 x5 zb)
 clear HX H1;go_wp2;go_loopg [5,6] l.length (fun gk s5 s6 wx=>∃ (i:Nat) (u:Value),i≤l.length∧gk=l.length - i∧u=s5∧s6=I (i:Int)∧wx.ownsRow d.heap.size 44 5 u (oF l h i).length (flatJ (oF l h i))∧Bl d wx)
 case atStart=>exact ⟨0,_,γ,rfl,rfl,rfl,by simpa [oF,flatJ] using World.ownsRow_nil _ _ _ _,Qe _⟩
 case round =>
  obtain ⟨i,u,hi,rfl,rfl,rfl,hO,hB⟩:=hrel;have B:Hid (wr.ownsRow d.heap.size 44 5 u (oF l h i).length (flatJ (oF l h i))∧Bl d wr):=⟨hO,hB⟩;clear hO hB;by_cases h1:i<l.length
  ·have i1:(i:Int)<(l.length:Int):=γ;have i0:(0:Int)≤(i:Int):=γ;obtain ⟨x,hx⟩:∃ x,x=l[i]:=⟨_,rfl⟩;obtain ⟨gl,el,hA⟩:=H2.out.1 i h1;subst el;rw [← hx] at hA;have aj:CqOk N x:=by rw [hx];exact HR.out.1 _ (Lm h1)
   have hN:0<N:=by have:=aj.1;omega
   obtain ⟨gh,eh,hH⟩:=H2.out.2.1 hN;subst eh;obtain ⟨mb,au⟩:∃ b,b=misD h x:=⟨_,rfl⟩;have bc:l.getD i dq=x:=by rw [Qz l i h1,hx]
   obtain ⟨⟨e0,e1,e2,e3⟩,xi,⟨L,M,O⟩,xj,⟨o0,o1,o2⟩,xk,tv⟩:=x;have f:Hid (l.getD i dq=⟨(e0,e1,e2,e3),xi,(L,M,O),xj,(o0,o1,o2),xk,tv⟩∧CqOk N ⟨(e0,e1,e2,e3),xi,(L,M,O),xj,(o0,o1,o2),xk,tv⟩∧QAt d gl (i*14) ⟨(e0,e1,e2,e3),xi,(L,M,O),xj,(o0,o1,o2),xk,tv⟩∧Hr d gh 0 N h∧mb=misD h ⟨(e0,e1,e2,e3),xi,(L,M,O),xj,(o0,o1,o2),xk,tv⟩):=⟨bc,aj,hA,hH,au⟩
   have aw:Hid (∀ V:World,Bl d V→Rt 57 #[.agg #[I e0,I e1,I e2,I e3,I (xi:Int),I L,I M,I O,I xj,I o0,I o1,I o2,I xk,.bool tv],.slice (Az gh) N hc] V (.bool mb)):=fun V hV=>by
    rw [au];exact Qba ⟨(e0,e1,e2,e3),xi,(L,M,O),xj,(o0,o1,o2),xk,tv⟩ gh 0 N hc h V aj (hH.kept hV) HR.out.2
   clear hx hA aj hH au bc;obtain ⟨c0,c1,c2,c3,c4,c5,c6,c7,c8,c9,c10,c11,c12,c13⟩:=f.out.2.2.1.kept B.out.2;dsimp only at c0 c1 c2 c3 c4 c5 c6 c7 c8 c9 c10 c11 c12 c13;have ac:=Bt c0
   have az:Hid ((oF l h i).length≤700000):=by
    show (oF l h i).length≤700000
    have h9:=oF_len l h i;have:i*(l.length+1)≤768*769:=Nat.mul_le_mul γ γ;omega
   obtain ⟨ua,uc,ao,_,_⟩:=Zz B.out.1;subst ao;go_upto_if 27 with (go_at_call 57;refine (aw.out _ B.out.2).mono ?_;rintro e w5 ⟨rfl,c⟩;have X:Hid (Bl wr w5):=c;replace c0:=Qa c c0;replace c1:=Qa c c1;replace c2:=Qa c c2;replace c3:=Qa c c3;replace c4:=Qa c c4;replace c5:=Qa c c5;replace c6:=Qa c c6;replace c7:=Qa c c7;replace c8:=Qa c c8;replace c9:=Qa c c9;replace c10:=Qa c c10;replace c11:=Qa c c11;replace c12:=Qa c c12;replace c13:=Qa c c13;replace ac:gl<w5.heap.size:=bk c0;clear c)
   go_cut [5] (fun s5 wx=>∃ u2:Value,u2=s5∧wx.ownsRow d.heap.size 44 5 u2 (mS l h i (oF l h i)).length (flatJ (mS l h i (oF l h i)))∧Bl d wx)
   case first =>
    cases mb
    ·have an:Hid (mS l h i (oF l h i)=oF l h i):=by
      show mS l h i (oF l h i)=oF l h i
      unfold mS;rw [f.out.1,← f.out.2.2.2.2];simp
     go_wp2;go_meet
     case rel =>
      refine ⟨_,rfl, ?_,Qc B.out.2 X.out⟩;rw [an.out];exact Qj B.out.1 X.out
    ·have an:Hid (mS l h i (oF l h i)=insC (oF l h i) ((e0,e1,e2,e3),4)):=by
      show mS l h i (oF l h i)=insC (oF l h i) ((e0,e1,e2,e3),4)
      unfold mS;rw [f.out.1,← f.out.2.2.2.2];simp
     have ak:Hid (Cl 58 #[.slice ua (oF l h i).length uc,.agg #[I e0,I e1,I e2,I e3,I 4]] w5 fun e w'=>∃ v,e=.returned v∧w'.ownsRow d.heap.size 44 5 v (insC (oF l h i) ((e0,e1,e2,e3),4)).length (flatJ (insC (oF l h i) ((e0,e1,e2,e3),4)))∧Bl w5 w'):=Ko w5 d.heap.size uc ua (oF l h i) e0 e1 e2 e3 4 (Qj B.out.1 X.out) (Nt B.out.2.size X.out.size) (by have:=az.out;omega);go_wp2_with (go_at_call 58;refine ak.out.mono ?_;rintro e w6 ⟨v6,rfl,bi,b8⟩;have C:Hid (w6.ownsRow d.heap.size 44 5 v6 (insC (oF l h i) ((e0,e1,e2,e3),4)).length (flatJ (insC (oF l h i) ((e0,e1,e2,e3),4)))∧Bl d w6):=⟨bi,Qc B.out.2 (Qc X.out b8)⟩;clear bi b8)
     go_meet
     case rel =>
      refine ⟨_,rfl, ?_,C.out.2⟩;rw [an.out];exact C.out.1
   case rest =>
    obtain ⟨u2,rfl,b7,b6⟩:=hcut;obtain ⟨W5,bu⟩:∃ x,x=wc:=⟨_,rfl⟩;subst bu;have HM:Hid (W5.ownsRow d.heap.size 44 5 u2 (mS l h i (oF l h i)).length (flatJ (mS l h i (oF l h i)))∧Bl d W5):=⟨b7,b6⟩;obtain ⟨A,ai⟩:∃ A,A=mS l h i (oF l h i):=⟨_,rfl⟩
    have ax:Hid (A=mS l h i (oF l h i)∧A.length≤700001):=by
     refine ⟨ai, ?_⟩;rw [ai];have:=mS_len l h i (oF l h i);have:=az.out;omega
    rw [← ai] at HM;clear b7 b6 ai aw c0 c1 c2 c3 c4 c5 c6 c7 c8 c9 c10 c11 c12 c13 ac B X;go_wp2;go_loopg [5,7] l.length (fun gk s5 s7 wx=>∃ (k:Nat) (u:Value),k≤l.length∧gk=l.length - k∧u=s5∧s7=I (k:Int)∧wx.ownsRow d.heap.size 44 5 u (kF l h i A k).length (flatJ (kF l h i A k))∧Bl d wx)
    case atStart=>exact ⟨0,_,γ,rfl,rfl,rfl,HM.out.1,HM.out.2⟩
    case round =>
     clear HM;obtain ⟨k,u,hk,rfl,rfl,rfl,hO,hB⟩:=hrel;have B:Hid (wr.ownsRow d.heap.size 44 5 u (kF l h i A k).length (flatJ (kF l h i A k))∧Bl d wr):=⟨hO,hB⟩;clear hO hB;by_cases hk1:k<l.length
     ·have k1:(k:Int)<(l.length:Int):=γ;have k0:(0:Int)≤(k:Int):=γ;obtain ⟨y,hy⟩:∃ y,y=l[k]:=⟨_,rfl⟩;obtain ⟨bz,el,hA⟩:=H2.out.1 k hk1;simp only [Option.some.injEq,Addr.mk.injEq,and_true] at el;subst el;rw [← hy] at hA;have bn:CqOk N y:=by rw [hy];exact HR.out.1 _ (Lm hk1)
      have be:l.getD k dq=y:=by rw [Qz l k hk1,hy]
      obtain ⟨⟨j,m,o,p⟩,Q,⟨r,s,t⟩,R,⟨G,J,K⟩,T,P⟩:=y;have Y:Hid (l.getD k dq=⟨(j,m,o,p),Q,(r,s,t),R,(G,J,K),T,P⟩∧CqOk N ⟨(j,m,o,p),Q,(r,s,t),R,(G,J,K),T,P⟩∧QAt d gl (k*14) ⟨(j,m,o,p),Q,(r,s,t),R,(G,J,K),T,P⟩):=⟨be,bn,hA⟩;clear hy hA bn be;obtain ⟨c0,c1,c2,c3,c4,c5,c6,c7,c8,c9,c10,c11,c12,c13⟩:=f.out.2.2.1.kept B.out.2;dsimp only at c0 c1 c2 c3 c4 c5 c6 c7 c8 c9 c10 c11 c12 c13;obtain ⟨d0,d1,d2,d3,d4,d5,d6,d7,d8,d9,ae,af,ag,ah⟩:=Y.out.2.2.kept B.out.2;dsimp only at d0 d1 d2 d3 d4 d5 d6 d7 d8 d9 ae af ag ah;have ac:=Bt c0
      have bt:Hid ((kF l h i A k).length≤701000):=by
       show (kF l h i A k).length≤701000
       have:=kF_len l h i A k;have:=ax.out.2;omega
      obtain ⟨bo,bp,ao,_,_⟩:=Zz B.out.1;subst ao;obtain ⟨sb,av⟩:∃ b,b=(!sameB e0 e1 e2 e3 j m o p || !sameT L M O r s t || decide (i=k)):=⟨_,rfl⟩;have D:Hid (sb=(!sameB e0 e1 e2 e3 j m o p || !sameT L M O r s t || decide (i=k))):=av
      have b5:Hid (sb=false↔((e0,e1,e2,e3)=(j,m,o,p)∧(L,M,O)=(r,s,t)∧i≠k)):=by
       show sb=false↔_
       rw [av];simp only [sameB,sameT,Prod.mk.injEq,Bool.or_eq_false_iff,Bool.not_eq_false',decide_eq_true_eq,decide_eq_false_iff_not,ne_eq];constructor
       ·rintro ⟨⟨a1,a2⟩,a3⟩;exact ⟨a1,a2,a3⟩
       ·rintro ⟨a1,a2,a3⟩;exact ⟨⟨a1,a2⟩,a3⟩
      clear av;go_upto_region 12 with fail
      go_cut [70] (fun bw wx=>bw=.bool sb∧Bl wr wx)
      case first =>
       have ar:=aa e0 e1 e2 e3 j m o p;have bb:=ab L M O r s t;clear aa ab
       cases hs1:sameB e0 e1 e2 e3 j m o p
       ·rw [hs1] at ar D;obtain ⟨kc,kn⟩:=kcn wr;refine wk ?_;repeat (go_big_quiet_step (fail))
        refine kq1 (fun wq hq=>?_);clear kc kn;go_wp2;go_meet
        case rel=>exact ⟨by rw [D.out];rfl,hq⟩
       ·cases hs2:sameT L M O r s t
        ·rw [hs1] at ar D;rw [hs2] at bb D;obtain ⟨kc,kn⟩:=kcn wr;refine wk ?_;repeat (go_big_quiet_step (fail))
         refine kq1 (fun wq hq=>?_);clear kc kn;go_wp2;go_meet
         case rel=>exact ⟨by rw [D.out];rfl,hq⟩
        ·rw [hs1] at ar D;rw [hs2] at bb D;by_cases eik:i=k
         ·have q9:((i:Int) == (k:Int))=true:=ω;have q8:(i:Int)=(k:Int):=γ;have a8:Hid (sb=true):=by show sb=true;rw [D.out];simp [eik]
          clear eik;obtain ⟨kc,kn⟩:=kcn wr;refine wk ?_;repeat (go_big_quiet_step (fail))
          refine kq1 (fun wq hq=>?_);clear kc kn;go_wp2;go_meet
          case rel=>exact ⟨by first | (rw [a8.out];done) | (rw [a8.out];simp;omega),hq⟩
         ·have q9:((i:Int) == (k:Int))=false:=ω;have q8:¬ (i:Int)=(k:Int):=γ;have a8:Hid (sb=false):=by show sb=false;rw [D.out];simp [eik]
          clear eik;obtain ⟨kc,kn⟩:=kcn wr;refine wk ?_;repeat (go_big_quiet_step (fail))
          refine kq1 (fun wq hq=>?_);clear kc kn;go_wp2;go_meet
          case rel=>exact ⟨by first | (rw [a8.out];done) | (rw [a8.out];simp;omega),hq⟩
      case rest =>
       obtain ⟨rfl,a⟩:=hcut;obtain ⟨W6,bv⟩:∃ x,x=wc:=⟨_,rfl⟩;subst bv;have C:Hid (Bl wr W6∧Bl d W6):=⟨a,Qc B.out.2 a⟩;clear aa ab
       cases sb
       ·obtain ⟨Z,aq⟩:∃ z,z=clD h ⟨(e0,e1,e2,e3),xi,(L,M,O),xj,(o0,o1,o2),xk,tv⟩ ⟨(j,m,o,p),Q,(r,s,t),R,(G,J,K),T,P⟩:=⟨_,rfl⟩;have am:Hid (Z=clD h ⟨(e0,e1,e2,e3),xi,(L,M,O),xj,(o0,o1,o2),xk,tv⟩ ⟨(j,m,o,p),Q,(r,s,t),R,(G,J,K),T,P⟩):=aq
        have bs:Hid (∀ V:World,Bl d V→Rt 59 #[.agg #[I e0,I e1,I e2,I e3,I (xi:Int),I L,I M,I O,I xj,I o0,I o1,I o2,I xk,.bool tv],.agg #[I j,I m,I o,I p,I (Q:Int),I r,I s,I t,I R,I G,I J,I K,I T,.bool P],.slice (Az gh) N hc] V (I Z)):=fun V hV=>by
         rw [aq];exact clashOf_any ⟨(e0,e1,e2,e3),xi,(L,M,O),xj,(o0,o1,o2),xk,tv⟩ ⟨(j,m,o,p),Q,(r,s,t),R,(G,J,K),T,P⟩ gh 0 N hc h V f.out.2.1 Y.out.2.1 (f.out.2.2.2.1.kept hV) HR.out.2
        replace c0:=Qa a c0;replace c1:=Qa a c1;replace c2:=Qa a c2;replace c3:=Qa a c3;replace c4:=Qa a c4;replace c5:=Qa a c5;replace c6:=Qa a c6;replace c7:=Qa a c7;replace c8:=Qa a c8;replace c9:=Qa a c9;replace c10:=Qa a c10;replace c11:=Qa a c11;replace c12:=Qa a c12;replace c13:=Qa a c13;replace d0:=Qa a d0;replace d1:=Qa a d1;replace d2:=Qa a d2;replace d3:=Qa a d3;replace d4:=Qa a d4;replace d5:=Qa a d5;replace d6:=Qa a d6;replace d7:=Qa a d7;replace d8:=Qa a d8;replace d9:=Qa a d9;replace ae:=Qa a ae;replace af:=Qa a af;replace ag:=Qa a ag;replace ah:=Qa a ah;replace ac:gl<W6.heap.size:=bk c0;clear a aq;go_upto_region 13 with fail
        obtain ⟨kc,kn⟩:=kcn W6;refine wk ?_;repeat (go_big_quiet_step ((go_at_call 59;exact Qf (bs.out _ (Qc C.out.2 (Kin.h _))))))
        refine kq1 (fun W7 hq=>?_);clear kc kn;have a6:Hid (Bl W6 W7∧Bl d W7):=⟨hq,Qc C.out.2 hq⟩;replace c0:=Qa hq c0;replace c1:=Qa hq c1;replace c2:=Qa hq c2;replace c3:=Qa hq c3;replace ac:gl<W7.heap.size:=bk c0;clear hq c4 c5 c6 c7 c8 c9 c10 c11 c12 c13 d0 d1 d2 d3 d4 d5 d6 d7 d8 d9 ae af ag ah;by_cases hcp:0<Z
        ·have ba:Z > 0:=hcp
         have a7:Hid (kF l h i A (k+1)=insC (kF l h i A k) ((e0,e1,e2,e3),Z)):=by
          show kS l h i (kF l h i A k) k=_
          unfold kS;obtain ⟨a1,a2,a3⟩:=b5.out.1 rfl
          have E:kC l h i k:=by
           unfold kC;rw [f.out.1,Y.out.1];exact ⟨a1,a2,a3,by rw [← am.out];exact hcp⟩
          rw [if_pos E,f.out.1,Y.out.1,← am.out]
         have ak:Hid (Cl 58 #[.slice bo (kF l h i A k).length bp,.agg #[I e0,I e1,I e2,I e3,I Z]] W7 fun e w'=>∃ v,e=.returned v∧w'.ownsRow d.heap.size 44 5 v (insC (kF l h i A k) ((e0,e1,e2,e3),Z)).length (flatJ (insC (kF l h i A k) ((e0,e1,e2,e3),Z)))∧Bl W7 w'):=Ko W7 d.heap.size bp bo (kF l h i A k) e0 e1 e2 e3 Z (Qj B.out.1 (Qc C.out.1 a6.out.1)) a6.out.2.size (by have:=bt.out;omega);clear hcp;go_wp2_with (go_at_call 58;refine ak.out.mono ?_;rintro e w8 ⟨v8,rfl,bj,b9⟩;have ay:Hid (w8.ownsRow d.heap.size 44 5 v8 (insC (kF l h i A k) ((e0,e1,e2,e3),Z)).length (flatJ (insC (kF l h i A k) ((e0,e1,e2,e3),Z)))∧Bl d w8):=⟨bj,Qc a6.out.2 b9⟩;clear bj b9)
         go_roundg (l.length - (k+1))
         case measure=>omega
         case rel =>
          refine ⟨k+1,v8,γ,rfl,rfl,σ, ?_,ay.out.2⟩;rw [a7.out];exact ay.out.1
        ·have ba:¬ Z > 0:=hcp
         have a7:Hid (kF l h i A (k+1)=kF l h i A k):=by
          show kS l h i (kF l h i A k) k=_
          unfold kS;rw [if_neg (fun E=>hcp (by rw [am.out,← f.out.1,← Y.out.1];exact E.2.2.2))]
         clear hcp;go_wp2;go_roundg (l.length - (k+1))
         case measure=>omega
         case rel =>
          refine ⟨k+1,_,γ,rfl,rfl,σ, ?_,a6.out.2⟩;rw [a7.out];exact Qj B.out.1 (Qc C.out.1 a6.out.1)
       ·have a7:Hid (kF l h i A (k+1)=kF l h i A k):=by
         show kS l h i (kF l h i A k) k=_
         unfold kS
         rw [if_neg (fun E=>by
          have h9:true=false:=b5.out.2 (by
           unfold kC at E;rw [f.out.1,Y.out.1] at E;exact ⟨E.1,E.2.1,E.2.2.1⟩)
          cases h9)]
        clear a;go_wp2;go_roundg (l.length - (k+1))
        case measure=>omega
        case rel =>
         refine ⟨k+1,_,γ,rfl,rfl,σ, ?_,C.out.2⟩;rw [a7.out];exact Qj B.out.1 C.out.1
     ·have k1:¬ (k:Int)<(l.length:Int):=γ;obtain rfl:k=l.length:=γ
      have HF:Hid (kF l h i A l.length=oF l h (i+1)):=by
       show kF l h i A l.length=oF l h (i+1)
       rw [ax.out.1];rfl
      rw [HF.out] at B;go_wp2;go_roundg (l.length - (i+1))
      case measure=>omega
      case rel=>exact ⟨i+1,u,γ,rfl,rfl,σ,B.out.1,B.out.2⟩
  ·have i1:¬ (i:Int)<(l.length:Int):=γ;obtain rfl:i=l.length:=γ;go_wp2;go_ret;exact ⟨u,rfl,Vn B.out.1 H2.out.2.2.size,Qc H2.out.2.2 B.out.2⟩
theorem kF_mem (l:List Cq) (h:Nat→Int) (i:Nat) (A:List C5) (x:C5):∀ k,x∈kF l h i A k↔x∈A∨∃ j,j<k∧kC l h i j∧x=((l.getD i dq).e,clD h (l.getD i dq) (l.getD j dq))
 | 0=>by
  constructor
  ·exact Or.inl
  ·rintro (a | ⟨j,c,_⟩)
   ·exact a
   ·omega
 | k+1=>by
  unfold kF kS;have d:=kF_mem l h i A x k;split
  ·rename_i hc
   rw [Ky,d];constructor
   ·rintro ((a | ⟨j,c,b⟩) | a)
    ·exact Or.inl a
    ·exact Or.inr ⟨j,γ,b⟩
    ·exact Or.inr ⟨k,γ,hc,a⟩
   ·rintro (a | ⟨j,c,b⟩)
    ·exact Or.inl (Or.inl a)
    ·by_cases e:j=k
     ·subst e;exact Or.inr b.2
     ·exact Or.inl (Or.inr ⟨j,γ,b⟩)
  ·rename_i hc
   rw [d];constructor
   ·rintro (a | ⟨j,c,b⟩)
    ·exact Or.inl a
    ·exact Or.inr ⟨j,γ,b⟩
   ·rintro (a | ⟨j,c,b⟩)
    ·exact Or.inl a
    ·by_cases e:j=k
     ·subst e;exact absurd b.1 hc
     ·exact Or.inr ⟨j,γ,b⟩
theorem mS_mem (l:List Cq) (h:Nat→Int) (i:Nat) (A:List C5) (x:C5):x∈mS l h i A↔x∈A∨(misD h (l.getD i dq)=true∧x=((l.getD i dq).e,4)):=by
 unfold mS;split
 ·rename_i hm
  rw [Ky];constructor
  ·rintro (a | a)
   ·exact Or.inl a
   ·exact Or.inr ⟨hm,a⟩
  ·rintro (a | a)
   ·exact Or.inl a
   ·exact Or.inr a.2
 ·rename_i hm
  constructor
  ·exact Or.inl
  ·rintro (a | a)
   ·exact a
   ·exact absurd a.1 hm
theorem oF_mem (l:List Cq) (h:Nat→Int) (x:C5):∀ n,x∈oF l h n↔∃ i,i<n∧((misD h (l.getD i dq)=true∧x=((l.getD i dq).e,4))∨∃ j,j<l.length∧kC l h i j∧x=((l.getD i dq).e,clD h (l.getD i dq) (l.getD j dq)))
 | 0=>by simp [oF]
 | n+1=>by
  unfold oF;rw [kF_mem,mS_mem,oF_mem l h x n];constructor
  ·rintro ((⟨i,hi,a⟩ | a) | a)
   ·exact ⟨i,γ,a⟩
   ·exact ⟨n,γ,Or.inl a⟩
   ·exact ⟨n,γ,Or.inr a⟩
  ·rintro ⟨i,hi,a⟩;by_cases e:i=n
   ·subst e;rcases a with a | a
    ·exact Or.inl (Or.inr a)
    ·exact Or.inr a
   ·exact Or.inl (Or.inl ⟨i,γ,a⟩)
theorem kF_up (l:List Cq) (h:Nat→Int) (i:Nat) (A:List C5) (c:A.Pairwise fun a b=>ltC a b=true):∀ k,(kF l h i A k).Pairwise fun a b=>ltC a b=true
 | 0=>c
 | k+1=>by
  unfold kF kS;split
  ·exact insC_up _ _ (kF_up l h i A c k)
  ·exact kF_up l h i A c k
theorem oF_up (l:List Cq) (h:Nat→Int):∀ n,(oF l h n).Pairwise fun a b=>ltC a b=true
 | 0=>List.Pairwise.nil
 | n+1=>by
  unfold oF;refine kF_up _ _ _ _ ?_ _;unfold mS;split
  ·exact insC_up _ _ (oF_up l h n)
  ·exact oF_up l h n
section
variable {kd:E4→Int} {L:List T3} {M:Nat→M6}
theorem cqs_at (kd:E4→Int) (L:List T3) (M:Nat→M6):∀ (n i c:Nat),i<n→c<3→(cqs kd L M n)[i*3+c]?=some (cq kd L M i c)
 | 0,_,_,h,_=>by omega
 | n+1,i,c,h,hc=>by
  rw [← cqk_full,cqk];by_cases e:i=n
  ·subst e;rw [List.getElem?_append_right (by rw [Vk];omega),Vk,Nat.add_sub_cancel_left];simp [hc]
  ·rw [List.getElem?_append_left (by rw [Vk];omega)];exact cqs_at kd L M n i c γ hc
theorem Ya (hi:i<n) (a:c<3):(cqs kd L M n).getD (i*3+c) dq=cq kd L M i c:=by
 rw [List.getD_eq_getElem?_getD,cqs_at kd L M n i c hi a];rfl
theorem plc_nat (a:L.Nodup) (hi:i<L.length):plc L L[i]=(i:Int):=Gv hi rfl fun j b c e=>by
 have:=List.pairwise_iff_getElem.1 a j i b hi c;exact this e
theorem plc_cases (t:T3):(plc L t<0∧t ∉ L)∨∃ J,∃ h:J<L.length,plc L t=(J:Int)∧L[J]=t:=by
 unfold plc;split
 ·rename_i h
  exact Or.inr ⟨L.idxOf t,List.idxOf_lt_length_of_mem h,rfl,List.getElem_idxOf _⟩
 ·rename_i h
  exact Or.inl ⟨γ,h⟩
theorem cq_cases (hi:i<L.length) (b:c<3):((cq kd L M i c).j<0∧(cq kd L M i c).fo=false∧(cq kd L M i c).go=false)∨∃ J:Nat,(cq kd L M i c).j=(J:Int)∧Cmx kd L M i J (cq kd L M i c).e (cq kd L M i c).k∧(cq kd L M i c).o=Plx L M J:=by
 rcases plc_cases (L:=L) (acr (L.getD i (0,0,0)) (edg (L.getD i (0,0,0)) c)) with ⟨h,_⟩ | ⟨J,a,e1,e2⟩
 ·refine Or.inl ⟨h, ?_, ?_⟩
  ·unfold Cq.fo foB;rw [decide_eq_false (by have:(cq kd L M i c).j<0:=h;omega)];rfl
  ·unfold Cq.go goB;rw [decide_eq_false (by have:(cq kd L M i c).j<0:=h;omega)];rfl
 ·refine Or.inr ⟨J,e1,⟨hi,a,c,b,e2,rfl,rfl⟩, ?_⟩;show (if 0≤plc L (acr (L.getD i (0,0,0)) (edg (L.getD i (0,0,0)) c)) then Plx L M (plc L (acr (L.getD i (0,0,0)) (edg (L.getD i (0,0,0)) c))).toNat else (0,0,0))=_
  rw [e1,if_pos γ,Int.toNat_natCast]
theorem sameT_iff (a b:T3):sameT a.1 a.2.1 a.2.2 b.1 b.2.1 b.2.2=true↔a=b:=by
 obtain ⟨a0,a1,c⟩:=a;obtain ⟨b0,b1,b2⟩:=b;simp [sameT]
theorem Uf (g:Geo kd L M) {J:Nat} (d:(cq kd L M i c).j=(J:Int)) (b:Cmx kd L M i J (cq kd L M i c).e (cq kd L M i c).k) (f:(cq kd L M i c).o=Plx L M J):((cq kd L M i c).fo=true↔(cq kd L M i c).k≠0)∧((cq kd L M i c).go=true↔(cq kd L M i c).k=0):=by
 have H:=g.cmr (h:=fun i=>(i:Int)) (fun _ _ _ e=>by omega);have hp:(cq kd L M i c).p=Plx L M i:=rfl
 have hs:sameT (cq kd L M i c).o.1 (cq kd L M i c).o.2.1 (cq kd L M i c).o.2.2 (cq kd L M i c).p.1 (cq kd L M i c).p.2.1 (cq kd L M i c).p.2.2=true↔(cq kd L M i c).k≠0:=by
  rw [sameT_iff,f,hp];constructor
  ·intro e a;rw [a] at b;have h1:=H.on b;rw [e] at h1;have:=sd_le (cq kd L M i c).e (Plx L M i);omega
  ·intro a;exact (H.fold b a).symm
 unfold Cq.fo Cq.go foB goB;rw [d,decide_eq_true γ,Bool.true_and,Bool.true_and,hs];refine ⟨Iff.rfl, ?_⟩;rw [Bool.not_eq_true',← Bool.not_eq_true,hs];exact Decidable.not_not
theorem cq_of (g:Geo kd L M) {E:E4} {k:Int} (f:Cmx kd L M i j E k):∃ c,c<3∧(cq kd L M i c).e=E∧(cq kd L M i c).k=k∧(cq kd L M i c).j=(j:Int)∧(cq kd L M i c).o=Plx L M j:=by
 obtain ⟨hi,d,c,b,e1,e2,e3⟩:=f
 have a:plc L (acr (L.getD i (0,0,0)) (edg (L.getD i (0,0,0)) c))=(j:Int):=by
  rw [← e1];exact plc_nat g.nd d
 refine ⟨c,b,e2.symm,e3.symm,a, ?_⟩;show (if 0≤plc L (acr (L.getD i (0,0,0)) (edg (L.getD i (0,0,0)) c)) then Plx L M (plc L (acr (L.getD i (0,0,0)) (edg (L.getD i (0,0,0)) c))).toNat else (0,0,0))=_
 rw [a,if_pos γ,Int.toNat_natCast]
theorem cqs_ok (kd:E4→Int) (L:List T3) (M:Nat→M6):∀ x∈cqs kd L M L.length,CqOk L.length x:=fun x a=>by
 unfold cqs at a;obtain ⟨i,hi,a⟩:=List.mem_flatMap.1 a;obtain ⟨c,d,rfl⟩:=List.mem_map.1 a;refine ⟨List.mem_range.1 hi, ?_⟩;rcases plc_cases (L:=L) (acr (L.getD i (0,0,0)) (edg (L.getD i (0,0,0)) c)) with ⟨h,_⟩ | ⟨J,b,e1,_⟩
 ·exact Or.inl h
 ·exact Or.inr ⟨J,b,e1⟩
theorem clD_pos {x y:Cq} (hp:0<clD h x y):(clD h x y=1∧x.go=true∧y.go=true∧h x.i<h y.i∧h y.j.toNat<h x.j.toNat)∨(clD h x y=2∧x.fo=true∧y.go=true∧btw (h y.i) (h x.i) (h x.j.toNat)=true)∨(clD h x y=3∧x.fo=true∧y.fo=true∧x.i≠y.j.toNat∧btw (h y.i) (h x.i) (h x.j.toNat)≠btw (h y.j.toNat) (h x.i) (h x.j.toNat)):=by
 unfold clD at *;split at hp
 ·rename_i h1
  split at hp
  ·rename_i h2
   rw [if_pos h1,if_pos h2];exact Or.inl ⟨rfl,h1.1,h1.2,h2.1,h2.2⟩
  ·omega
 ·rename_i h1
  rw [if_neg h1];split at hp
  ·rename_i h2
   split at hp
   ·rename_i h3
    rw [if_pos h2,if_pos h3];exact Or.inr (Or.inl ⟨rfl,h2.1,h2.2,h3⟩)
   ·omega
  ·rename_i h2
   rw [if_neg h2];split at hp
   ·rename_i h3
    split at hp
    ·rename_i h4
     rw [if_pos h3,if_pos h4];exact Or.inr (Or.inr ⟨rfl,h3.1,h3.2,h4.1,h4.2⟩)
    ·omega
   ·omega
theorem fo_go {x:Cq} (h:x.fo=true):x.go=false:=by
 unfold Cq.fo foB at h;unfold Cq.go goB;rw [Bool.and_eq_true] at h;rw [h.1,h.2];rfl
theorem ref_iff (g:Geo kd L M) (H:Cmr L.length (Cmx kd L M) (Plx L M) (fun i=>tov (M i)) h) (E:E4) (z:Int):(E,z)∈oF (cqs kd L M L.length) h (cqs kd L M L.length).length↔∃ k:Nat,z=(k:Int)∧clP (Cmx kd L M) (Plx L M) (fun i=>tov (M i)) h E k:=by
 rw [oF_mem,Vk];have o:∀ m,m<L.length*3→∃ i c,i<L.length∧c<3∧m=i*3+c:=fun m hm=>⟨m / 3,m % 3,γ,γ,γ⟩;constructor
 ·rintro ⟨m,hm,⟨l,D⟩ | ⟨m',ab,hk,D⟩⟩
  ·obtain ⟨i,c,hi,r,rfl⟩:=o m hm;rw [Ya hi r] at l D;simp only [Prod.mk.injEq] at D;unfold misD at l;rw [Bool.and_eq_true] at l;rcases cq_cases (kd:=kd) (M:=M) hi r with ⟨_,P,_⟩ | ⟨J,F,n,ho⟩
   ·rw [P] at l;exact absurd l.1 ξ
   ·have t:=Uf g F n ho;refine ⟨4,D.2,Or.inr (Or.inr (Or.inr ⟨rfl,i,J,_,D.1 ▸ n,t.1.1 l.1, ?_⟩))⟩;have:=l.2;rw [F,Int.toNat_natCast] at this;exact this
  ·obtain ⟨i,c,hi,r,rfl⟩:=o m hm;obtain ⟨Y,c',W,V,rfl⟩:=o m' ab;unfold kC at hk;rw [Ya hi r,Ya W V] at hk D;obtain ⟨he,hp,C,v⟩:=hk;simp only [Prod.mk.injEq] at D;obtain ⟨X,G⟩:=D
   have a8:i≠Y:=fun e=>by
    subst e;have O:=bro_inj (g.map hi) (g.kT hi) (g.kT hi) (Jc _ c) (Jc _ c') he;have Q:=edg_ne (g.kT hi);have c3:c=0∨c=1∨c=2:=γ;have a6:c'=0∨c'=1∨c'=2:=γ;rcases c3 with rfl | rfl | rfl <;> rcases a6 with rfl | rfl | rfl
    ·exact C rfl
    ·exact Q.1 O
    ·exact Q.2.1 O
    ·exact Q.1 O.symm
    ·exact C rfl
    ·exact Q.2.2 O
    ·exact Q.2.1 O.symm
    ·exact Q.2.2 O.symm
    ·exact C rfl
   rcases cq_cases (kd:=kd) (M:=M) hi r with ⟨_,P,hg⟩ | ⟨J,F,n,ho⟩
   ·rcases clD_pos v with ⟨_,a,_⟩ | ⟨_,a,_⟩ | ⟨_,a,_⟩
    ·rw [hg] at a;cases a
    ·rw [P] at a;cases a
    ·rw [P] at a;cases a
   ·rcases cq_cases (kd:=kd) (M:=M) W V with ⟨_,P,hg⟩ | ⟨J',B,f,ac⟩
    ·rcases clD_pos v with ⟨_,_,a,_⟩ | ⟨_,_,a,_⟩ | ⟨_,_,a,_⟩
     ·rw [hg] at a;cases a
     ·rw [hg] at a;cases a
     ·rw [P] at a;cases a
    ·have t:=Uf g F n ho;have u:=Uf g B f ac;rw [← X] at n;rw [← he,← X] at f;have s:Plx L M i=Plx L M Y:=hp;rcases clD_pos v with ⟨e1,a1,p,a3,a4⟩ | ⟨e1,a1,p,a3⟩ | ⟨e1,a1,p,a3,a4⟩
     ·rw [F,B,Int.toNat_natCast,Int.toNat_natCast] at a4;rw [t.2.1 a1] at n;rw [u.2.1 p] at f;exact ⟨1,by rw [G,e1];rfl,Or.inl ⟨rfl,i,J,Y,J',n,f,s,a3,a4⟩⟩
     ·rw [F,Int.toNat_natCast] at a3;rw [u.2.1 p] at f;exact ⟨2,by rw [G,e1];rfl,Or.inr (Or.inl ⟨rfl,i,J,_,Y,J',n,t.1.1 a1,f,s,a3⟩)⟩
     ·rw [F,B,Int.toNat_natCast,Int.toNat_natCast] at a4;rw [B,Int.toNat_natCast] at a3;exact ⟨3,by rw [G,e1];rfl,Or.inr (Or.inr (Or.inl ⟨rfl,i,J,_,Y,J',_,n,t.1.1 a1,f,u.1.1 p,s,a8,a3,a4⟩))⟩
 ·have K:∀ {x N y T:Nat} {c d:Int} {k:Int},Cmx kd L M x N E c→Cmx kd L M y T E d→Plx L M x=Plx L M y→x≠y→0<k →
    (∀ a b:Cq,a.j=(N:Int)→a.i=x→b.j=(T:Int)→b.i=y→(a.fo=true↔c≠0)→(a.go=true↔c=0)→(b.fo=true↔d≠0)→(b.go=true↔d=0)→clD h a b=k)→z=k →
    ∃ i,i<L.length*3∧((misD h ((cqs kd L M L.length).getD i dq)=true∧(E,z)=(((cqs kd L M L.length).getD i dq).e,4))∨∃ j,j<L.length*3∧kC (cqs kd L M L.length) h i j∧(E,z)=(((cqs kd L M L.length).getD i dq).e,clD h ((cqs kd L M L.length).getD i dq) ((cqs kd L M L.length).getD j dq))):=by
   intro x N y T c d k q A s C aa a7 hz;obtain ⟨a,U,a1,p,a3,a4⟩:=cq_of g q;obtain ⟨b,hb,b1,b2,b3,b4⟩:=cq_of g A;have Z:=q.1;have ly:=A.1;have R:=Uf g a3 (by rw [a1,p];exact q) a4;have ky:=Uf g b3 (by rw [b1,b2];exact A) b4;rw [p] at R;rw [b2] at ky;have hv:=a7 _ _ a3 rfl b3 rfl R.1 R.2 ky.1 ky.2;refine ⟨x*3+a,γ,Or.inr ⟨y*3+b,γ, ?_, ?_⟩⟩
   ·unfold kC;rw [Ya Z U,Ya ly hb];exact ⟨a1.trans b1.symm,s,γ,by rw [hv];exact aa⟩
   ·rw [Ya Z U,Ya ly hb,a1,hv,hz]
  rintro ⟨k,rfl,⟨rfl,x,N,y,T,q,A,s,h1,h2⟩ | ⟨rfl,x,N,c,y,T,q,r,A,s,h1⟩ | ⟨rfl,x,N,c,y,T,d,q,r,A,hd,s,n1,n2,h1⟩ | ⟨rfl,x,N,c,q,r,h1⟩⟩
  ·refine K q A s (fun e=>by subst e;omega) γ (fun a b a1 p b1 b2 fa ga fb gb=>?_) rfl;unfold clD;rw [if_pos ⟨ga.2 rfl,gb.2 rfl⟩,a1,p,b1,b2,Int.toNat_natCast,Int.toNat_natCast,if_pos ⟨h1,h2⟩];rfl
  ·refine K q A s (fun e=>by subst e;exact r (H.uni q A).2) γ (fun a b a1 p b1 b2 fa ga fb gb=>?_) rfl;have f1:=fa.2 r;have g1:=fo_go f1;unfold clD;rw [if_neg (by rw [g1];simp),if_pos ⟨f1,gb.2 rfl⟩,a1,p,b2,Int.toNat_natCast,if_pos h1];rfl
  ·refine K q A s n1 γ (fun a b a1 p b1 b2 fa ga fb gb=>?_) rfl;have f1:=fa.2 r;have g1:=fo_go f1;have f2:=fb.2 hd;have g2:=fo_go f2;unfold clD;rw [if_neg (by rw [g1];simp),if_neg (by rw [g2];simp),if_pos ⟨f1,f2⟩,a1,p,b1,b2,Int.toNat_natCast,Int.toNat_natCast,if_pos ⟨n2,h1⟩];rfl
  ·obtain ⟨a,U,a1,p,a3,a4⟩:=cq_of g q;have Z:=q.1;have R:=Uf g a3 (by rw [a1,p];exact q) a4;rw [p] at R;refine ⟨x*3+a,γ,Or.inl ⟨?_, ?_⟩⟩
   ·rw [Ya Z U];unfold misD;rw [R.1.2 r,p,a3,Int.toNat_natCast,Bool.true_and];exact h1
   ·rw [Ya Z U,a1];rfl
end
theorem run_range_em {ls:EL} (h:EM w a ls c):(Instr.range 108 (.map (some a))).run Tryz.prog w=.ok (.pointer (Az w.heap.size)) (w.alloc (.mapIter (some a) c #[] c)):=by
 unfold EM at h;simp [Instr.range,run_underlying Tryz.underlying108,MapKept.run_getObj_map h,Result.andThen]
def kE (K:E4→List Nat) (e:E4) (m:Nat):List C5:=((K e).take m).map fun (k:Nat)=>(e,(k:Int))
theorem kE_zero (K:E4→List Nat) (e:E4):kE K e 0=[]:=by simp [kE]
theorem kE_succ (K:E4→List Nat) (e:E4) {m:Nat} (h:m<(K e).length):kE K e (m+1)=kE K e m ++ [(e,((K e)[m]:Int))]:=by
 unfold kE;rw [List.take_succ_eq_append_getElem h,List.map_append];rfl
theorem kE_len (K:E4→List Nat) (e:E4) (m:Nat):(kE K e m).length≤(K e).length:=by
 unfold kE;rw [List.length_map,List.length_take];exact Nat.min_le_right _ _
def kV (K:E4→List Nat) (vis:EL):List C5:=vis.flatMap fun x=>kE K x.1 (K x.1).length
theorem kV_add (K:E4→List Nat) (a:EL) (x:E4×Value×Nat):kV K (a ++ [x])=kV K a ++ kE K x.1 (K x.1).length:=by simp [kV]
theorem kV_len (K:E4→List Nat) (a:∀ e,(K e).length≤4):∀ vis:EL,(kV K vis).length≤vis.length*4
 | []=>by simp [kV]
 | x :: l=>by
  have b:=kV_len K a l;have h1:=kE_len K x.1 (K x.1).length;have h2:=a x.1;have:kV K (x :: l)=kE K x.1 (K x.1).length ++ kV K l:=by simp [kV]
  rw [this,List.length_append,List.length_cons];omega
theorem kV_mem (K:E4→List Nat) (a:EL) (y:C5):y∈kV K a↔∃ x∈a,∃ k∈K x.1,y=(x.1,(k:Int)):=by
 unfold kV kE;simp only [List.mem_flatMap,List.take_length,List.mem_map];constructor
 ·rintro ⟨x,c,k,b,rfl⟩;exact ⟨x,c,k,b,rfl⟩
 ·rintro ⟨x,c,k,b,rfl⟩;exact ⟨x,c,k,b,rfl⟩
theorem kV_nodup (K:E4→List Nat) (d:∀ e,(K e).Nodup):∀ vis:EL,(vis.map fun x=>x.1).Nodup→(kV K vis).Nodup
 | [],_=>by simp [kV]
 | x :: l,h=>by
  rw [List.map_cons,List.nodup_cons] at h;have:kV K (x :: l)=kE K x.1 (K x.1).length ++ kV K l:=by simp [kV]
  rw [this,List.nodup_append];refine ⟨?_,kV_nodup K d l h.2,fun a f b g e=>?_⟩
  ·unfold kE;rw [List.take_length];refine List.pairwise_map.2 ((d x.1).imp fun {a b} c e=>c ?_);simp only [Prod.mk.injEq] at e;omega
  ·subst e;obtain ⟨y,i,k,_,rfl⟩:=(kV_mem K l a).1 g;unfold kE at f;obtain ⟨j,_,e⟩:=List.mem_map.1 f;simp only [Prod.mk.injEq] at e;exact h.1 (List.mem_map.2 ⟨y,i,e.1.symm⟩)
structure CS (w wx:World) (rm r c:Nat) (ls:EL) (seen:List Nat) (v:Value) (A:List C5):Prop where
 em:EM wx rm ls c
 it:wx.heap[r]?=some (.mapIter (some rm) c seen.toArray c)
 own:wx.ownsRow (r+1) 44 5 v A.length (flatJ A)
 b:Bl w wx
 lo:w.heap.size≤r
 hr:rm<w.heap.size
theorem CS.lt {b:World} {ls:EL} {a:List Nat} {A:List C5} (h:CS w b d r c ls a v A):r<b.heap.size:=(Array.getElem?_eq_some_iff.1 h.it).1
theorem EM.keptB {b:World} {ls:EL} (h:EM w a ls c) (d:Bl w b):EM b a ls c:=(d.block a (Array.getElem?_eq_some_iff.1 h).1).trans h
theorem CS.kept {f w':World} {e:Nat} {ls:EL} {a:List Nat} {A:List C5} (h:CS w f e r c ls a v A) (d:Bl f w'):CS w w' e r c ls a v A :=
 ⟨h.em.keptB d,(d.block r h.lt).trans h.it,Qj h.own d,Qc h.b d,h.lo,h.hr⟩
theorem CS.next {e w':World} {x:Nat} {ls:EL} {a:List Nat} {A:List C5} (h:CS w e d r c ls a v A) (hs:StepE e w' d r c ls a x):CS w w' d r c ls (a ++ [x]) v A:=by
 obtain ⟨g,hi,hg⟩:=hs;refine ⟨g,hi,h.own.kept hg ?_,h.b.grown hg h.b.size (fun k f=>by have:=h.lo;simp at f;omega),h.lo,h.hr⟩
 cases e2:v.ownBlock with
 | none=>exact Or.inl rfl
 | some q =>
  refine Or.inr (fun e1=>?_);have:=Qw h.own q e2;simp at e1;omega
theorem CS.more {k j:World} {ls:EL} {a:List Nat} {v':Value} {A:List C5} {x:C5} (h:CS w k d r c ls a v A) (hg:k.grownBy j v.ownBlock) (l:j.ownsRow (r+1) 44 5 v' (A.length+1) (flatJ A ++ flatJ [x])):CS w j d r c ls a v' (A ++ [x]):=by
 have f:∀ q,v.ownBlock=some q→r<q:=fun q hq=>by
  have:=Qw h.own q hq;omega
 have g:some d≠v.ownBlock:=fun e=>by
  have:=f d e.symm;have:=h.hr;have:=h.lo;omega
 have i:some r≠v.ownBlock:=fun e=>by
  have:=f r e.symm;omega
 refine ⟨(hg.block d (Array.getElem?_eq_some_iff.1 h.em).1 g).trans h.em,(hg.block r h.lt i).trans h.it, ?_,h.b.grown hg h.b.size (fun q hq=>by have:=f q hq;have:=h.lo;omega),h.lo,h.hr⟩;rw [List.length_append,Yg];exact l
theorem CS.start {ls:EL} (h:EM w a ls c):CS w (w.alloc (.mapIter (some a) c #[] c)) a w.heap.size c ls [] SN [] :=
 ⟨h.keptB β1,heap_alloc_new w _,⟨rfl,Or.inl ⟨rfl,rfl⟩⟩,Qb (Qe _),Nr _,(Array.getElem?_eq_some_iff.1 h).1⟩
theorem clashes_no (W H:Int) (a0 c0 j m:Option Addr) (o c n a i h l k:Nat) (w:World) (d:Hid (∀ V:World,Bl w V→Cl 36 #[.agg #[I W,I H,.slice a0 o c,.slice c0 n a,.slice j i h,.slice m l k]] V fun e w'=>OfNo V w' e)) :
  Rt 10 #[.agg #[I W,I H,.slice a0 o c,.slice c0 n a,.slice j i h,.slice m l k]] w (.tuple #[SN,I 10]):=by
 go_enter Tryz.func10,Tryz.ntmps10;go_wp2_with (go_at_call 36;refine (d.out _ Θ).mono ?_;rintro e w1 ⟨z0,k0,d0,q,r,z3,k3,d3,z4,p,d4,f,rfl,g⟩;have b:=Hd (Qc β1 g);clear g)
 refine bodyPost_ret (v:=.tuple #[SN,I 10]) (by simp [results,Tryz.results10,go_sem]) rfl ⟨rfl, ?_⟩;with_reducible repeat' (first | exact b.out | refine Qh ?_ ?_ | refine Qb ?_)
 all_goals (have:=b.out.size;first | omega | (dsimp only;omega))
theorem clashes_ok (W H:Int) (a0 c0 mp sp:Option Addr) (zl bb n ae mn mc sl sc:Nat) (kd:E4→Int) (L:List T3) (M:Nat→M6) (h:Nat→Int) (w:World)
  (ax:Hid (∀ V:World,Bl w V→Cl 36 #[.agg #[I W,I H,.slice a0 zl bb,.slice c0 n ae,.slice mp mn mc,.slice sp sl sc]] V fun e w'=>∃ ad k ra rk gm cm pa pc bf,e=.returned (.tuple #[.agg #[.slice ad L.length k,.map (some ra),.map (some rk),.slice (Az gm) L.length cm,.slice pa L.length pc],ABv bf,.bool true])∧PileAt w' ad k ra rk gm cm pa pc L kd M∧Hg w' bf L.length h∧Bl V w'))
  (hs:Steps w) (hL:L.length≤300) (bj:∀ t∈L,(0≤t.1∧t.1≤8)∧(0≤t.2.1∧t.2.1≤8)∧(0≤t.2.2∧t.2.2≤3)) (bc:∀ i,i<L.length→MOk1 L M i) (be:∀ E,MdOk (gA kd L M (pls L M L.length) L.length E) L.length) :
  Cl 10 #[.agg #[I W,I H,.slice a0 zl bb,.slice c0 n ae,.slice mp mn mc,.slice sp sl sc]] w fun e w'=>∃ a c C,e=.returned (.tuple #[.slice a (List.length C) c,I 0])∧JRow w' a C∧C.Pairwise (fun x y=>ltC x y=true)∧(∀ y,y∈C↔∃ e k,k∈clN (rl h (gA kd L M (pls L M L.length) L.length e)) 4∧y=(e,(k:Int)))∧Bl w w':=by
 obtain ⟨G,hG⟩:∃ G,G=gA kd L M (pls L M L.length) L.length:=⟨_,rfl⟩;obtain ⟨K,Y⟩:∃ K:E4→List Nat,K=fun e=>clN (rl h (G e)) 4:=⟨_,rfl⟩
 have HK:Hid ((∀ e,(K e).length≤4)∧(∀ e,(K e).Nodup)∧(∀ e,K e=clN (rl h (G e)) 4)∧∀ e,G e=mdZ→K e=[]):=by
  refine ⟨fun e=>by rw [Y];exact Ug _ 4,fun e=>by rw [Y];exact (clN_up _ 4).imp fun q=>Nat.ne_of_lt q,fun e=>by rw [Y],fun e he=>?_⟩;rw [Y];dsimp only;rw [he];rfl
 have HR:Hid ((∀ t∈L,(0≤t.1∧t.1≤8)∧(0≤t.2.1∧t.2.1≤8)∧(0≤t.2.2∧t.2.2≤3))∧(∀ i,i<L.length→MOk1 L M i)∧(∀ E,MdOk (G E) L.length)∧Steps w∧G=gA kd L M (pls L M L.length) L.length):=⟨bj,bc,by rw [hG];exact be,hs,hG⟩;obtain ⟨cf,hi,bs,bt,bu⟩:=info_parts inf44;have HI:=H4 hi bs bt bu;rw [← hG];clear hi bs bt bu hG Y hs bj bc be;go_enter Tryz.func10,Tryz.ntmps10;go_upto_region 2 with (go_at_call 36;refine (ax.out _ Θ).mono ?_;rintro e w1 ⟨ad,k,ra,rk,gm,cm,pa,pc,bf,rfl,hP,hH,hb⟩;have H1:=H3 hP hH (Qc β1 hb);clear hP hH hb)
 refine Qi (fun W1 hW1=>?_);obtain ⟨B1,ao⟩:∃ b,b=w1.heap.size:=⟨_,rfl⟩
 have a8:Hid (Bl w1 W1):=by
  show Bl w1 W1
  rw [hW1];with_reducible repeat' (first | exact Qe _ | refine Qh ?_ ?_ | refine Qb ?_)
  all_goals (first | omega | (dsimp only;omega) | (simp;done))
 have X1:Hid (At W1 B1 0 (.slice ad L.length k)∧At W1 B1 1 (.map (some ra))∧At W1 B1 2 (.map (some rk))∧At W1 B1 3 (.slice (Az gm) L.length cm)∧At W1 B1 4 (.slice pa L.length pc)):=by
  rw [hW1,ao];refine ⟨?_, ?_, ?_, ?_, ?_⟩ <;> simp [go_sem]
 rw [← ao];clear hW1 ao;obtain ⟨x0,x1,x2,x3,x4⟩:=X1.out;have zB:=Bt x0
 have ay:Hid (Cl 38 #[.agg #[.slice ad L.length k,.map (some ra),.map (some rk),.slice (Az gm) L.length cm,.slice pa L.length pc]] W1 fun e w'=>MtsTo W1 w' G e):=by
  rw [HR.out.2.2.2.2];exact meetings_any W1 L.length k ra rk gm cm pc ad pa L kd M (H1.out.1.kept a8.out) rfl hL HR.out.1 HR.out.2.1 (HR.out.2.2.2.1.kept (Qc H1.out.2.2 a8.out))
 go_wp2_with (go_at_call 38;refine ay.out.mono ?_;rintro e U ⟨rm,base,mm,rfl,ca,bo,bp,cc,aq⟩;obtain ⟨ls,c,ar,bm,bn,Z,a6,_⟩:=ca;have H3:Hid (Good ls c∧ls.length≤300000∧(∀ e,lk ls e=none→G e=mdZ)∧(∀ e v,lk ls e=some v→G e≠mdZ∧∃ s0 s1 s2 s3,v=.agg #[s0,s1,s2,s3]∧Ow U base s0 s1 s2 s3 (G e))∧Hg U bf L.length h∧Bl w U):=⟨bm,γ,Z,a6,(H1.out.2.1.kept a8.out).kept aq,Qc H1.out.2.2 (Qc a8.out aq)⟩;have ac:=run_range_em ar;have an:=Hd (CS.start ar);clear ar bm bn Z a6 bo bp cc aq x0 x1 x2 x3 x4 zB)
 obtain ⟨r,hr⟩:∃ r,r=U.heap.size:=⟨_,rfl⟩;rw [← hr] at an ⊢;clear hr ac X1 ay ax;go_loopg [7] (ls.length+1) (fun gk s7 wx=>∃ d:EL,gk=ls.length+1 - d.length∧VisE ls d∧CS U wx rm r c ls (stampE d) s7 (kV K d))
 case atStart=>exact ⟨[],rfl,VisE.nil ls,an.out⟩
 case round =>
  clear an;obtain ⟨d,rfl,hV,hS⟩:=hrel;have HV:=Hd hV;obtain ⟨a7,c7,e7,_,_⟩:=Zz hS.own;subst e7;have X:=Hd hS
  have b8:Hid ((kV K d).length≤1200000):=by
   show (kV K d).length≤1200000
   have h1:=kV_len K HK.out.1 d;have h2:=hV.len;have h3:=H3.out.2.1;omega
  clear hV hS;go_wp2_with (at_next;refine wpList_next_em rfl _ rfl rm r c ls (stampE d) rfl X.out.em X.out.it H3.out.1 (by have:=X.out.hr;have:=X.out.lo;omega) ?done ?more)
  case done =>
   intro af;have HD:=Hd af;clear af;have az:Hid (Cl 40 #[.slice a7 (kV K d).length c7,.func (.func 41) #[] #[]] wr fun e w'=>e=.returned (.tuple #[])∧∃ Bs',Bs'.Perm (kV K d)∧Bs'.Pairwise (fun x y=>ltC y x=false)∧JRow w' a7 Bs'∧wr.grownBy w' (Value.slice a7 (kV K d).length c7).ownBlock):=sortClash_any wr (r+1) c7 a7 (kV K d) X.out.own (by have:=b8.out;omega);go_wp2_with (go_at_call 40;refine az.out.mono ?_;rintro e w9 ⟨rfl,Bs,hp,br,hj,hg⟩;have H9:Hid (Bs.Perm (kV K d)∧Bs.Pairwise (fun x y=>ltC y x=false)∧JRow w9 a7 Bs∧Bl w w9):=⟨hp,br,hj,Qc H3.out.2.2.2.2.2 (X.out.b.grown hg X.out.b.size (fun q hq=>by have:=Qw X.out.own q hq;have:=X.out.lo;omega))⟩;clear hp br hj hg)
   have aw:(kV K d).length=Bs.length:=H9.out.1.length_eq.symm;refine bodyPost_ret (v:=.tuple #[.slice a7 (kV K d).length c7,I 0]) (by simp [results,Tryz.results10,go_sem]) rfl ⟨a7,c7,Bs,by rw [← aw],H9.out.2.2.1, ?_,fun y=>?_,H9.out.2.2.2⟩
   ·have cd:Bs.Nodup:=H9.out.1.nodup_iff.2 (kV_nodup K HK.out.2.1 d (HV.out.keys H3.out.1));refine List.Pairwise.imp₂ (fun {x y} h1 h2=>ltC_tri h1 (Ne.symm h2)) H9.out.2.1 cd
   ·rw [H9.out.1.mem_iff,kV_mem];constructor
    ·rintro ⟨x,hx,k,hk,rfl⟩;exact ⟨x.1,k,by rw [← HK.out.2.2.1];exact hk,rfl⟩
    ·rintro ⟨e,k,hk,rfl⟩;rw [← HK.out.2.2.1] at hk
     cases hl:lk ls e with
     | none =>
      rw [HK.out.2.2.2 e (H3.out.2.2.1 e hl)] at hk
      cases hk
     | some v =>
      obtain ⟨b,hb⟩:=lk_mem hl;exact ⟨(e,v,b),(HV.out.all H3.out.1 HD.out _).2 hb,k,hk,rfl⟩
  case more =>
   intro e0 e1 e2 e3 xv st W4 P ai cb;have HX:=Hd P;have ba:=Hd (HV.out.add P)
   have aa:Hid (CS U W4 rm r c ls (stampE (d ++ [((e0,e1,e2,e3),xv,st)])) (.slice a7 (kV K d).length c7) (kV K d)):=by
    show CS U W4 rm r c ls (stampE (d ++ [((e0,e1,e2,e3),xv,st)])) (.slice a7 (kV K d).length c7) (kV K d)
    rw [stampE_add];exact X.out.next ai
   obtain ⟨_,s0,s1,s2,s3,ce,bg⟩:=H3.out.2.2.2.1 (e0,e1,e2,e3) xv (lk_in H3.out.1 P.1);subst ce;have Q:=Hd bg;clear P ai bg;obtain ⟨p,D,f0,_⟩:=Zb Q.out.o0;obtain ⟨s,F,f1,_⟩:=Zb Q.out.o1;obtain ⟨z,J,f2,_⟩:=Zb Q.out.o2;obtain ⟨B,N,f3,_⟩:=Zb Q.out.o3;subst f0 f1 f2 f3;go_upto_region 8 with fail
   refine Qi (fun O ap=>?_);obtain ⟨o,ab⟩:∃ b,b=W4.heap.size:=⟨_,rfl⟩
   have b6:Hid (Bl W4 O):=by
    show Bl W4 O
    rw [ap];with_reducible repeat' (first | exact Qe _ | refine Qh ?_ ?_ | refine Qb ?_)
    all_goals (first | (dsimp only;omega) | (simp;done) | (simp;omega))
   have X5:Hid ((At O o 0 (I e0)∧At O o 1 (I e1)∧At O o 2 (I e2)∧At O o 3 (I e3))∧(At O (o+1) 0 (.slice p (G (e0,e1,e2,e3)).a0.length D)∧At O (o+1) 1 (.slice s (G (e0,e1,e2,e3)).b0.length F)∧At O (o+1) 2 (.slice z (G (e0,e1,e2,e3)).a1.length J)∧At O (o+1) 3 (.slice B (G (e0,e1,e2,e3)).b1.length N))):=by
    rw [ap,ab];refine ⟨⟨?_, ?_, ?_, ?_⟩, ?_, ?_, ?_, ?_⟩ <;> simp [go_sem]
   have b7:=Hd ab;rw [← ab];clear ap ab cb;obtain ⟨⟨x0,x1,x2,x3⟩,y0,y1,y2,y3⟩:=X5.out;have zB:=Bt x0;have zC:=Bt y0;obtain ⟨m,av⟩:∃ m,m=K (e0,e1,e2,e3):=⟨_,rfl⟩
   have aj:Hid (Cl 39 #[.agg #[.slice p (G (e0,e1,e2,e3)).a0.length D,.slice s (G (e0,e1,e2,e3)).b0.length F,.slice z (G (e0,e1,e2,e3)).a1.length J,.slice B (G (e0,e1,e2,e3)).b1.length N],ABv bf] O fun e w'=>∃ a c,e=.returned (.slice a m.length c)∧w'.ownsRow O.heap.size 3 1 (.slice a m.length c) m.length (nV m)∧Bl O w'):=by
    have bi:Bl U O:=Qc aa.out.b b6.out;have:=meetClash_any O base bf L.length _ _ _ _ (G (e0,e1,e2,e3)) h (Q.out.sam (Sam.below (R:=fun _=>False) bi) fun _ _=>id) (H3.out.2.2.2.2.1.kept bi) hL (HR.out.2.2.1 _);rw [av,HK.out.2.2.1];exact this
   have am:=Hd av;clear av;unfold ABv at aj;unfold ABv;go_wp2_with (go_at_call 39;refine aj.out.mono ?_;rintro e w6 ⟨ak,ck,rfl,a2,bh⟩;have H6:=H2 a2 bh;clear a2 bh x0 x1 x2 x3 y0 y1 y2 y3 zB zC)
   go_loopg [7,32] m.length (fun gk s7 cg wx=>∃ (j:Nat) (u:Value),j≤m.length∧gk=m.length - j∧u=s7∧cg=I (j:Int)∧CS U wx rm r c ls (stampE (d ++ [((e0,e1,e2,e3),Value.agg #[.slice p (G (e0,e1,e2,e3)).a0.length D,.slice s (G (e0,e1,e2,e3)).b0.length F,.slice z (G (e0,e1,e2,e3)).a1.length J,.slice B (G (e0,e1,e2,e3)).b1.length N],st)])) u (kV K d ++ kE K (e0,e1,e2,e3) j)∧wx.ownsRow O.heap.size 3 1 (.slice ak m.length ck) m.length (nV m)∧(At wx o 0 (I e0)∧At wx o 1 (I e1)∧At wx o 2 (I e2)∧At wx o 3 (I e3))∧some o≠u.ownBlock)
   case atStart =>
    obtain ⟨⟨x0,x1,x2,x3⟩,_⟩:=X5.out;refine ⟨0,_,γ,rfl,rfl,rfl, ?_,H6.out.1,⟨Qa H6.out.2 x0,Qa H6.out.2 x1,Qa H6.out.2 x2,Qa H6.out.2 x3⟩,fun e=>?_⟩
    ·rw [kE_zero,List.append_nil];exact aa.out.kept (Qc b6.out H6.out.2)
    ·have:=(aa.out.own.lt o e.symm).2;have:=b7.out;omega
   case round =>
    clear H6 X5 aa X b7 aj Q;obtain ⟨j,u,hj,rfl,rfl,rfl,hS,a2,⟨x0,x1,x2,x3⟩,bq⟩:=hrel;obtain ⟨A,hA⟩:∃ A,A=kV K d ++ kE K (e0,e1,e2,e3) j:=⟨_,rfl⟩;rw [← hA] at hS;have b5:=Hd hA;obtain ⟨ua,uc,eu,_,_⟩:=Zz hS.own;subst eu;have f:Hid (CS U wr rm r c ls (stampE (d ++ [((e0,e1,e2,e3),Value.agg #[.slice p (G (e0,e1,e2,e3)).a0.length D,.slice s (G (e0,e1,e2,e3)).b0.length F,.slice z (G (e0,e1,e2,e3)).a1.length J,.slice B (G (e0,e1,e2,e3)).b1.length N],st)])) (.slice ua A.length uc) A∧wr.ownsRow O.heap.size 3 1 (.slice ak m.length ck) m.length (nV m)∧(At wr o 0 (I e0)∧At wr o 1 (I e1)∧At wr o 2 (I e2)∧At wr o 3 (I e3))∧some o≠(Value.slice ua A.length uc).ownBlock):=⟨hS,a2,⟨x0,x1,x2,x3⟩,bq⟩;have zB:=Bt x0
    have b9:Hid (A.length≤1300000):=by
     show A.length≤1300000
     rw [hA,List.length_append];have h1:=kE_len K (e0,e1,e2,e3) j;have h2:=HK.out.1 (e0,e1,e2,e3);have h3:=b8.out;omega
    clear hS a2 bq hA;have ch:m.length≤4:=by rw [am.out];exact HK.out.1 _
    by_cases hj1:j<m.length
    ·have j1:(j:Int)<(m.length:Int):=γ;have j0:(0:Int)≤(j:Int):=γ;obtain ⟨gk,bz,bk⟩:=own_irow f.out.2.1 j hj1;subst bz;obtain ⟨kj,au⟩:∃ kj,kj=m[j]:=⟨_,rfl⟩;rw [← au] at bk;have zk:=Bt bk
     have bw:Hid (kE K (e0,e1,e2,e3) (j+1)=kE K (e0,e1,e2,e3) j ++ [((e0,e1,e2,e3),(kj:Int))]):=by
      show kE K (e0,e1,e2,e3) (j+1)=kE K (e0,e1,e2,e3) j ++ [((e0,e1,e2,e3),(kj:Int))]
      have e9:=am.out;subst e9;rw [kE_succ K _ hj1,au]
     clear au;go_wp2_with (at_builtin;refine wpList_append_own_at _ rfl (.tmp 36) (.tmp 40) 32 rfl (r+1) 44 cf (.agg #[I 0,I 0,I 0,I 0,I 0]) 5 40 Tryz.underlying32 HI.out.1 HI.out.2.1 HI.out.2.2.1 HI.out.2.2.2 rfl ψ (.slice ua A.length uc) A.length (flatJ A) rfl (Qj f.out.1.own β1) ⟨wr.heap.size,0,none⟩ 1 1 [I e0,I e1,I e2,I e3,I (kj:Int)] rfl rfl (cell_fiveC _ _ _ _ _ _ _) (Vj [((e0,e1,e2,e3),(kj:Int))]) (by have:=b9.out;unfold maxLen;omega) (by have:=b9.out;omega) (by have:=f.out.1.lt;simp;omega) ?growS)
     case growS =>
      intro v' w8 ah l _ ag
      have HN:Hid (CS U w8 rm r c ls (stampE (d ++ [((e0,e1,e2,e3),Value.agg #[.slice p (G (e0,e1,e2,e3)).a0.length D,.slice s (G (e0,e1,e2,e3)).b0.length F,.slice z (G (e0,e1,e2,e3)).a1.length J,.slice B (G (e0,e1,e2,e3)).b1.length N],st)])) v' (kV K d ++ kE K (e0,e1,e2,e3) (j+1))∧w8.ownsRow O.heap.size 3 1 (.slice (Az gk) m.length ck) m.length (nV m)∧(At w8 o 0 (I e0)∧At w8 o 1 (I e1)∧At w8 o 2 (I e2)∧At w8 o 3 (I e3))∧some o≠v'.ownBlock):=by
       have T:Bl wr (wr.alloc (.cells #[I e0,I e1,I e2,I e3,I (kj:Int)] 44)):=Qb (Qe _);refine ⟨?_, ?_,⟨l.cell (Qa T f.out.2.2.1.1) f.out.2.2.2,l.cell (Qa T f.out.2.2.1.2.1) f.out.2.2.2,l.cell (Qa T f.out.2.2.1.2.2.1) f.out.2.2.2,l.cell (Qa T f.out.2.2.1.2.2.2) f.out.2.2.2⟩,fun e=>?_⟩
       ·rw [bw.out,← List.append_assoc,← b5.out];exact (f.out.1.kept T).more l ah
       ·refine (Sam.grown l).own (Qj f.out.2.1 T) fun g e9 e8=>?_;exact Jn (Qbl f.out.2.1 (Nat.zero_le _)) (Qbl f.out.1.own (Nat.zero_le _)) ψ g e9 e8
       ·rcases ag with h9 | h9
        ·rw [h9] at e;exact f.out.2.2.2 e
        ·rw [h9] at e;simp at e;omega
      clear ah l ag;go_wp2;go_roundg (m.length - (j+1))
      case measure=>omega
      case rel=>exact ⟨j+1,v',γ,rfl,rfl,σ,HN.out.1,HN.out.2.1,HN.out.2.2.1,HN.out.2.2.2⟩
    ·have j1:¬ (j:Int)<(m.length:Int):=γ;obtain rfl:j=m.length:=γ
     have bv:Hid (CS U wr rm r c ls (stampE (d ++ [((e0,e1,e2,e3),Value.agg #[.slice p (G (e0,e1,e2,e3)).a0.length D,.slice s (G (e0,e1,e2,e3)).b0.length F,.slice z (G (e0,e1,e2,e3)).a1.length J,.slice B (G (e0,e1,e2,e3)).b1.length N],st)])) (.slice ua A.length uc) (kV K (d ++ [((e0,e1,e2,e3),Value.agg #[.slice p (G (e0,e1,e2,e3)).a0.length D,.slice s (G (e0,e1,e2,e3)).b0.length F,.slice z (G (e0,e1,e2,e3)).a1.length J,.slice B (G (e0,e1,e2,e3)).b1.length N],st)]))):=by
      show CS U wr rm r c ls (stampE (d ++ [((e0,e1,e2,e3),Value.agg #[.slice p (G (e0,e1,e2,e3)).a0.length D,.slice s (G (e0,e1,e2,e3)).b0.length F,.slice z (G (e0,e1,e2,e3)).a1.length J,.slice B (G (e0,e1,e2,e3)).b1.length N],st)])) (.slice ua A.length uc) (kV K (d ++ [((e0,e1,e2,e3),Value.agg #[.slice p (G (e0,e1,e2,e3)).a0.length D,.slice s (G (e0,e1,e2,e3)).b0.length F,.slice z (G (e0,e1,e2,e3)).a1.length J,.slice B (G (e0,e1,e2,e3)).b1.length N],st)]))
      have h9:=f.out.1;have e9:=am.out;rw [kV_add];have e8:=b5.out;rw [e9] at e8;rw [← e8];exact h9
     go_wp2;go_roundg (ls.length+1 - (d ++ [((e0,e1,e2,e3),Value.agg #[.slice p (G (e0,e1,e2,e3)).a0.length D,.slice s (G (e0,e1,e2,e3)).b0.length F,.slice z (G (e0,e1,e2,e3)).a1.length J,.slice B (G (e0,e1,e2,e3)).b1.length N],st)]).length)
     case measure =>
      have h8:=ba.out.len;rw [List.length_append,List.length_singleton] at h8 ⊢;omega
     case rel=>exact ⟨d ++ [((e0,e1,e2,e3),Value.agg #[.slice p (G (e0,e1,e2,e3)).a0.length D,.slice s (G (e0,e1,e2,e3)).b0.length F,.slice z (G (e0,e1,e2,e3)).a1.length J,.slice B (G (e0,e1,e2,e3)).b1.length N],st)],rfl,ba.out,bv.out⟩
theorem calls_some {P:Program} {f:FuncId} {args:Array Value} {R:Ending→World→Prop} (h:Calls P f args w R):∃ e w',R e w':=by
 obtain ⟨e,w',fr,a,_⟩:=h [];exact ⟨e,w',a⟩
theorem heap_congr {pl d:Nat→Int×Int×Int} {f:Nat→Int} {S:List (T3×List Nat)} (H:Heap n pl h S) (h1:∀ j,j<n→pl j=d j) (h2:∀ j,j<n→h j=f j):Heap n d f S:=by
 refine ⟨H.1,fun s hs=>?_,H.2.2⟩;obtain ⟨a,b,c⟩:=H.2.1 s hs;refine ⟨a, ?_,fun j e=>⟨(c j e).1,by rw [← h1 j (c j e).1];exact (c j e).2⟩⟩;exact List.Pairwise.imp_of_mem (fun {x y} g i q=>by rw [← h2 x (c x g).1,← h2 y (c y i).1];exact q) b
theorem heap_hpN {pl:Nat→Int×Int×Int}:∀ n,(∀ i j,i<n→j<n→pl i=pl j→i≠j→h i≠h j)→Heap n pl h (hpN pl h n)
 | 0,_=>heap_nil pl h
 | n+1,hd=>by
  unfold hpN;exact (heap_hpN n (fun i j hi a=>hd i j γ γ)).ins (fun j a e=>hd j n γ γ e γ)
theorem Gu (a:j<n):(pls L M n).getD j (0,0,0)=mvP L M j:=by
 unfold pls mvP tg;rw [List.getD_eq_getElem?_getD (l:=List.map _ _)];simp [a]
theorem far_tz (kd:E4→Int) (e:E4) (m:M6):aft (farM kd e m) mz=farM kd e (aft m mz):=by
 unfold farM;split
 ·rfl
 ·exact aft_assoc _ _ _
theorem tz_ok (b:L.Nodup) (a:∀ t∈L,Kd t) (h:MOk kd L M):MOk kd L (tz M)↔∀ i,i<L.length→MOk1 L (tz M) i :=
 ⟨fun q=>q.1,fun q=>(Kr b a).1 fun i hi=>⟨q i hi,fun k d j c e=>by
  have:=((Kr b a).2 h i hi).2 k d j c e;unfold tz;rw [this];exact far_tz kd _ _⟩⟩
theorem lv_one {P:Nat→T3} {S:List (T3×List T3)} {b:Nat→Int} (d:L.Nodup) (f:StOk L P S) (j:Lv S L h S.length 0) (a:Lv S L b S.length 0) (hi:i<L.length):h i=b i:=by
 obtain ⟨m,k,c,g,e,_,e2⟩:=lv_at d f j hi;rw [e2,a i hi m k c g e (Or.inl c)]
theorem Hg.like {b:Nat} {a:Nat→Int} (k:Hg w b n h) (e:∀ i,i<n→h i=a i):Hg w b n a:=by
 obtain ⟨g,o,c,h1,h2⟩:=k;exact ⟨g,o,c,h1,fun i hi=>by rw [← e i hi];exact h2 i hi⟩
theorem plx_tz (g:Geo kd L M) (hi:i<L.length) (a:j<L.length) (e:mvP L (tz M) i=mvP L (tz M) j):Plx L M i=Plx L M j:=by
 have h1:mvP L (tz M) i=mvt mz (Plx L M i):=mvt_aft (g.map hi) (g.kT hi);have h2:mvP L (tz M) j=mvt mz (Plx L M j):=mvt_aft (g.map a) (g.kT a);rw [h1,h2] at e;exact mvt_inj map_mzZ (show Kd (Plx L M i) from mvt_kd) (show Kd (Plx L M j) from mvt_kd) e
theorem hneg_at (a:j<n):hvs (hneg h n) j=-h j:=by
 unfold hvs hneg;rw [List.getD_eq_getElem?_getD];simp [a]
def Mdl (D:MD) (c:Nat):Prop:=D.a0.length≤c∧D.b0.length≤c∧D.a1.length≤c∧D.b1.length≤c
theorem Mdl.up {D:MD} (h:Mdl D c) (e:c≤d):Mdl D d:=⟨Nt h.1 e,Nt h.2.1 e,Nt h.2.2.1 e,Nt h.2.2.2 e⟩
theorem Mdl.mt {D:MD} (h:Mdl D c) (kd:Int) (tv:Bool) (a i j:Nat):Mdl (mt D kd tv a i j) (c+1):=by
 unfold Go.Proofs.YtnpboeodhpenmaaGreatDoor.mt mtO mtF;obtain ⟨h1,h2,h3,h4⟩:=h;split <;> split <;> refine ⟨?_, ?_, ?_, ?_⟩ <;> simp <;> omega
theorem stJ_len {G:E4→MD} (h:∀ e,Mdl (G e) c) (q:E4×Int):∀ e,Mdl (stJ kd M pl i G q e) (c+1):=fun e=>by
 unfold stJ;split
 ·dsimp only;split
  ·exact (h _).mt _ _ _ _ _
  ·exact (h e).up γ
 ·exact (h e).up γ
theorem gJ_len:∀ (l:List (E4×Int)) (G:E4→MD) (c:Nat),(∀ e,Mdl (G e) c)→∀ e,Mdl (gJ kd M pl i G l e) (c+l.length)
 | [],_,_,h=>h
 | q :: l,G,c,h=>fun e=>(gJ_len l (stJ kd M pl i G q) (c+1) (stJ_len h q) e).up (by simp only [List.length_cons];omega)
theorem gA_len:∀ n e,Mdl (gA kd L M pl n e) (n*(3*L.length))
 | 0,e=>⟨by simp [gA,mdZ],by simp [gA,mdZ],by simp [gA,mdZ],by simp [gA,mdZ]⟩
 | n+1,e=>(gJ_len (jl L (L.getD n (0,0,0)) n 3) (gA kd L M pl n) _ (gA_len n) e).up (by
  have:=jl_len L (L.getD n (0,0,0)) n 3;have a:(n+1)*(3*L.length)=n*(3*L.length)+3*L.length:=Nat.succ_mul _ _;rw [a];omega)
theorem md_of (a:L.length≤256) (E:E4):MdOk (gA kd L M pl L.length E) L.length :=
 (gA_in (fun i _ q hq=>(jl_pos hq).2) L.length (Nr _) E).ok (gA_len L.length E) (by
  have b:L.length*(3*L.length)≤256*768:=Nat.mul_le_mul a γ;omega)
theorem stackTells_L (W H b off T n U gp op mc sc:Nat) (c sp:Option Addr) (zs ks:List Int) (kd:E4→Int) (L:List T3) (M:Nat→M6) (S:List (T3×List T3)) (w:World)
  (a6:∀ V:World,Bl w V→Cl 9 #[.agg #[I (W:Int),I (H:Int),.slice (Ad b off) zs.length T,.slice c n U,.slice (Ad gp op) L.length mc,.slice sp S.length sc]] V fun e w'=>∃ F f B l N A t u,e=.returned (.agg #[I (W:Int),I (H:Int),.slice F zs.length f,.slice B n l,.slice N L.length A,.slice t S.length u])∧CopyAt w' L.length zs ks M S F B N t∧(B=none∨∃ p o,B=Ad p o)∧Bl V w')
  (b6:∀ V:World,Bl w V→Rt 12 #[.agg #[I (W:Int),I (H:Int),.slice (Ad b off) zs.length T,.slice c n U,.slice (Ad gp op) L.length mc,.slice sp S.length sc]] V (.bool true))
  (b7:∀ (V:World) (F B N t:Option Addr) (f l A u:Nat),Bl w V→CopyAt V L.length zs ks M S F B N t→Cl 36 #[(.agg #[I (W:Int),I (H:Int),.slice F zs.length f,.slice B n l,.slice N L.length A,.slice t S.length u])] V fun e w'=>∃ ad k ra rk gm cm pa pc bf h,e=.returned (.tuple #[.agg #[.slice ad L.length k,.map (some ra),.map (some rk),.slice (Az gm) L.length cm,.slice pa L.length pc],ABv bf,.bool true])∧PileAt w' ad k ra rk gm cm pa pc L kd M∧Hg w' bf L.length h∧Lv S L h S.length 0∧Bl V w')
  (CT:∀ V:World,Bl w V→Cl 51 #[.agg #[I (W:Int),I (H:Int),.slice (Ad b off) zs.length T,.slice c n U]] V fun e w'=>∃ a c,e=.returned (.slice a L.length c)∧TRow w' a L∧Bl V w')
  (CO:∀ V:World,Bl w V→Cl 37 #[.agg #[I (W:Int),I (H:Int),.slice (Ad b off) zs.length T,.slice c n U]] V fun e w'=>∃ F f B l,e=.returned (.agg #[I (W:Int),I (H:Int),.slice F zs.length f,.slice B n l])∧RowF w' V.heap.size F zs∧RowF w' V.heap.size B ks∧Bl V w')
  (CK:∀ (V:World) (p q r s:Int),Bl w V→Rt 125 #[.agg #[I (W:Int),I (H:Int),.slice (Ad b off) zs.length T,.slice c n U],.agg #[I p,I q,I r,I s]] V (I (kd (p,q,r,s))))
  (hn:ks.length=n*5) (h1:zs.length≤17592186044416) (h2:n≤3518437208883) (bm:0<zs.length) (hM:MRowG w (Ad gp op) L.length M) (hS:SRowG w sp S) (ai:Steps w) (P:L.Nodup) (Y:∀ t∈L,(0≤t.1∧t.1≤8)∧(0≤t.2.1∧t.2.1≤8)∧(0≤t.2.2∧t.2.2≤3)) (a7:L.length≤256) (h0:0<L.length) (O:MOk kd L M) (R:StOk L (plF (pls L M L.length)) S) (ba:S.length≤300) (aq:∀ s∈S,s.2.length≤300) :
  Rt 3 #[.agg #[I (W:Int),I (H:Int),.slice (Ad b off) zs.length T,.slice c n U,.slice (Ad gp op) L.length mc,.slice sp S.length sc]] w (.bool true):=by
 have ax:∀ t∈L,Kd t:=fun t ht=>(Y t ht).2.2;have g:Geo kd L M:=⟨P,Y,(Kr P ax).2 O⟩
 obtain ⟨h,aa⟩:∃ h,Lv S L h S.length 0:=by
  obtain ⟨e8,w8,F,f,B,l,N,A,t,u,_,X,_,Q⟩:=calls_some (a6 w (Qe _));obtain ⟨e9,w9,_,_,_,_,_,_,_,_,_,h,_,_,_,hl,_⟩:=calls_some (b7 w8 F B N t f l A u Q X);exact ⟨h,hl⟩
 have hP:∀ i,i<L.length→plF (pls L M L.length) i=Plx L M i:=fun i hi=>Gu hi
 have hh:∀ i,i<L.length→0≤h i∧h i≤300:=fun i hi=>by
  obtain ⟨m,k,hm,hk,e,_,e2⟩:=lv_at P R aa hi;have:=aq _ (Lm hm);omega
 have ae:∀ {i i':Nat},i<L.length→i'<L.length→Plx L M i=Plx L M i'→h i=h i'→i=i':=fun {i i'} hi aw e1 e2=>hgt_of P R aa hi aw (by rw [hP i hi,hP i' aw];exact e1) e2;have HC:=g.cmr (h:=h) ae;let OK:World→Value→Prop:=fun V v=>∃ F f B l N A t u,v=(.agg #[I (W:Int),I (H:Int),.slice F zs.length f,.slice B n l,.slice N L.length A,.slice t S.length u])∧CopyAt V L.length zs ks M S F B N t∧(B=none∨∃ p o,B=Ad p o)
 have a8:∀ (V:World) (F B N t:Option Addr) (f l A u:Nat),Bl w V→CopyAt V L.length zs ks M S F B N t→Cl 36 #[(.agg #[I (W:Int),I (H:Int),.slice F zs.length f,.slice B n l,.slice N L.length A,.slice t S.length u])] V fun e w'=>∃ ad k ra rk gm cm pa pc bf,e=.returned (.tuple #[.agg #[.slice ad L.length k,.map (some ra),.map (some rk),.slice (Az gm) L.length cm,.slice pa L.length pc],ABv bf,.bool true])∧PileAt w' ad k ra rk gm cm pa pc L kd M∧Hg w' bf L.length h∧Bl V w':=fun V F B N t f l A u G X=>(b7 V F B N t f l A u G X).mono fun e w' ⟨ad,k,ra,rk,gm,cm,pa,pc,bf,h',Z,hp,hg,hl,Q⟩=>⟨ad,k,ra,rk,gm,cm,pa,pc,bf,Z,hp,hg.like (fun i hi=>lv_one P R hl aa hi),Q⟩;have ay:(cqs kd L M L.length).length=L.length*3:=Vk kd L M L.length;obtain ⟨C,ah⟩:∃ C,C=oF (cqs kd L M L.length) h (cqs kd L M L.length).length:=⟨_,rfl⟩
 have an:C.length≤1000000:=by
  have:=oF_len (cqs kd L M L.length) h (cqs kd L M L.length).length;rw [← ah,ay] at this;have h9:L.length*3*(L.length*3+1)≤768*769:=Nat.mul_le_mul γ γ;omega
 have K9:∀ V:World,Bl w V→Cl 9 #[.agg #[I (W:Int),I (H:Int),.slice (Ad b off) zs.length T,.slice c n U,.slice (Ad gp op) L.length mc,.slice sp S.length sc]] V fun e w'=>∃ u,e=.returned u∧OK w' u∧Bl V w':=fun V G=>(a6 V G).mono fun e w' ⟨F,f,B,l,N,A,t,u,Z,X,hf,Q⟩=>⟨_,Z,⟨F,f,B,l,N,A,t,u,rfl,X,hf⟩,Q⟩
 have K8:∀ (V:World) (u:Value),Bl w V→OK V u→Rt 8 #[u] V (.bool true):=fun V u G ho=>by
  obtain ⟨F,f,B,l,N,A,t,u',rfl,X,hf⟩:=ho;exact may_ok (W:Int) (H:Int) F B N t zs f n l L.length A S.length u' kd L M h V (fun V3 K=>a8 V3 F B N t f l A u' (Qc G K) (X.kept K))
 have aj:∀ (V:World) (u:Value),Bl w V→OK V u→Cl 10 #[u] V fun e w'=>∃ (d:Option Addr) (dc:Nat),e=.returned (.tuple #[.slice d C.length dc,I 0])∧JRow w' d C∧Bl V w':=fun V u G ho=>by
  obtain ⟨F,f,B,l,N,A,t,u',rfl,X,hf⟩:=ho;refine (clashes_ok (W:Int) (H:Int) F B N t zs.length f n l L.length A S.length u' kd L M h V (fun V3 K=>a8 V3 F B N t f l A u' (Qc G K) (X.kept K)) (ai.kept G) γ Y O.1 (fun E=>md_of a7 E)).mono fun e w' hq=>?_;obtain ⟨d,dc,D,Z,hr,bk,b5,Q⟩:=hq
  have:D=C:=by
   rw [ah];refine same_up D _ bk (oF_up _ _ _) fun x=>?_;obtain ⟨E,z⟩:=x;rw [b5,ref_iff g HC E z];constructor
   ·rintro ⟨E',k,hk,e⟩
    cases e;exact ⟨k,rfl,(cl_iff HC (gA_dof g (fun i hi=>Gu hi) E) k).1 hk⟩
   ·rintro ⟨k,rfl,hk⟩;exact ⟨E,k,(cl_iff HC (gA_dof g (fun i hi=>Gu hi) E) k).2 hk,rfl⟩
  subst this;exact ⟨d,dc,Z,hr,Q⟩
 have CV:∀ V:World,Bl w V→Cl 56 #[.agg #[I (W:Int),I (H:Int),.slice (Ad b off) zs.length T,.slice c n U,.slice (Ad gp op) L.length mc,.slice sp S.length sc]] V fun e w'=>∃ u,e=.returned u∧w'.ownsRow V.heap.size 3 1 u L.length (hv h L.length)∧Bl V w':=fun V G=>by
  refine levels_any (W:Int) (H:Int) (Ad b off) c (Ad gp op) sp zs.length T n U L.length mc S.length sc L.length V L h (fun V2 J=>CT V2 (Qc G J)) (fun V2 i x y k J hi e=>?_) rfl γ;obtain ⟨m,q,hm,hq,e1,_,e2⟩:=lv_at P R aa hi;rw [e2];refine levelOf_any (W:Int) (H:Int) (Ad b off) c (Ad gp op) sp zs.length T n U L.length mc S.length sc m q S V2 x y k (hS.kept (Qc G J)) rfl ba (fun s hs=>by have:=aq s hs;omega) hm hq (e1.trans e) (fun m' az bg be=>?_) (R.nd _ (Lm hm));obtain ⟨i2,bb,f1,f2⟩:=R.pl _ (Lm az) _ be;obtain ⟨i3,bc,g1,g2⟩:=R.pl _ (Lm hm) _ (Lm hq);have e5:i2=i:=Jj P bb hi (f1.trans e.symm);have e6:i3=i:=Jj P bc hi (g1.trans e1);subst e5;subst e6;have hp:=List.pairwise_iff_getElem.1 (up_pair R.up) m' m az hm bg;rw [← f2,← g2] at hp;exact Jr _ hp
 have ak:∀ V:World,Bl w V→Cl 14 #[.agg #[I (W:Int),I (H:Int),.slice (Ad b off) zs.length T,.slice c n U,.slice (Ad gp op) L.length mc,.slice sp S.length sc]] V fun e w'=>∃ (d:Option Addr) (dc:Nat),e=.returned (.slice d C.length dc)∧JRow w' d C∧Bl V w':=fun V G=>by
  refine (clashesOf_any (W:Int) (H:Int) (Ad b off) c (Ad gp op) sp zs.length T n U L.length mc S.length sc L.length (cqs kd L M L.length) h V (fun V2 J=>comersOf_any (W:Int) (H:Int) (Ad b off) c (Ad gp op) zs.length T n U L.length mc kd L M V2 (fun V3 K=>CT V3 (Qc G (Qc J K))) (fun V3 p q r s K=>CK V3 p q r s (Qc G (Qc J K))) (hM.kept (Qc G J)) O.1 rfl a7 Y) (fun V2 J=>CV V2 (Qc G J)) (cqs_ok kd L M) (fun q hq=>(hh q hq).1) (by rw [ay];omega)).mono fun e w' hq=>?_;obtain ⟨v,Z,ho,Q⟩:=hq;rw [← ah] at ho;obtain ⟨d,dc,rfl,_,hr⟩:=Zz ho;exact ⟨d,dc,Z,hr,Q⟩
 have am:=fun (V:World) (G:Bl w V)=>turnOf_any W H b off T zs.length n U L.length gp op mc S.length sc c sp zs ks L M h V (fun V2 J=>CT V2 (Qc G J)) (fun V2 J=>CO V2 (Qc G J)) (fun V2 J=>CV V2 (Qc G J)) (hM.kept G) (fun i hi=>(O.1 i hi).1) hh rfl h0 a7 Y P;by_cases hyes:MOk kd L (tz M)
 ·obtain ⟨SS,ab⟩:∃ SS,SS=trS L (hpN (mvP L (tz M)) (hvs (hneg h L.length)) L.length):=⟨_,rfl⟩;have av:∀ i j,i<L.length→j<L.length→mvP L (tz M) i=mvP L (tz M) j→i≠j→h i≠h j:=fun i j hi hj e1 e2 e3=>e2 (ae hi hj (plx_tz g hi hj e1) e3)
  have ap:SS.length≤300:=by
   rw [ab];unfold trS;rw [List.length_map];have:=hpN_len (mvP L (tz M)) (hvs (hneg h L.length)) L.length;omega
  have ao:∀ s∈SS,s.2.length≤300:=fun s hs=>by
   rw [ab] at hs;unfold trS at hs;obtain ⟨x,hx,rfl⟩:=List.mem_map.1 hs;dsimp only;rw [List.length_map];have:=hpN_lens (mvP L (tz M)) (hvs (hneg h L.length)) L.length x hx;omega
  refine Qau (W:Int) (H:Int) (Ad b off) c (Ad gp op) sp zs.length T n U L.length mc S.length sc OK (fun V v=>∃ F f B l g9 c9 t u,v=.agg #[I (W:Int),I (H:Int),.slice F zs.length f,.slice B n l,.slice (Az g9) L.length c9,.slice t SS.length u]∧Row V F zs∧Row V B ks∧MRow V g9 L.length (tz M)∧SRow V t SS) C C.length rfl an w K9 K8 aj (fun V u G ho=>?_) b6 ak (fun V G=>?_) (fun V V' u hu Q=>?_) (fun V u1 u2 bi bj=>?_)
  ·obtain ⟨F,f,B,l,N,A,t,u',rfl,X,hf⟩:=ho
   refine (turn_ok (W:Int) (H:Int) F B N t zs f n l L.length A S.length u' ks kd L M h V (fun V3 K=>a8 V3 F B N t f l A u' (Qc G K) (X.kept K)) (ai.kept G) h0 γ Y O.1 X.1 X.2.1 hn h1 h2 (by
    obtain ⟨p,o,e,_⟩:=X.1 0 bm;exact Or.inr ⟨p,o,e⟩) hf (fun i j hi hj e1 e2 e3=>av i j hi hj (by rw [Gu hi,Gu hj] at e1;exact e1) e2 γ) hyes).mono fun e w' hq=>?_
   obtain ⟨a9,af,b9,ag,g9,c9,t9,u9,Hp,Z,r1,r2,r3,_,hH,r4,Q⟩:=hq
   have b8:Hp=hpN (mvP L (tz M)) (hvs (hneg h L.length)) L.length:=by
    refine (heap_congr hH (fun j hj=>Gu hj) (fun j hj=>(hneg_at hj).symm)).one (heap_hpN L.length fun i j hi hj e1 e2 e3=>?_);rw [hneg_at hi,hneg_at hj] at e3;exact av i j hi hj e1 e2 γ
   have ac:SS=Hp.map fun s=>(s.1,tgn L s.2):=by
    rw [ab,b8];rfl
   have ar:SS.length=Hp.length:=by rw [ac,List.length_map]
   rw [← ar] at Z;rw [← ac] at r4;exact ⟨_,_,_,_,_,_,_,_,_,_,_,_,_,_,Z,⟨a9,af,b9,ag,g9,c9,t9,u9,rfl,r1.row,r2.row,r3,r4.row⟩,Q⟩
  ·refine (am V G).mono fun e w' hq=>?_;rcases hq with ⟨_,⟨i,hi,bh⟩,_⟩ | ⟨a9,af,b9,ag,g9,c9,t9,u9,Z,_,r1,r2,r3,r4,Q⟩
   ·exact absurd (hyes.1 i hi) bh
   ·rw [← ab] at Z r4;exact ⟨_,_,_,_,_,_,_,_,_,_,_,_,_,_,Z,⟨a9,af,b9,ag,g9,c9,t9,u9,rfl,r1.row,r2.row,r3,r4.row⟩,Q⟩
  ·obtain ⟨F,f,B,l,g9,c9,t,u',rfl,r1,r2,r3,r4⟩:=hu;exact ⟨F,f,B,l,g9,c9,t,u',rfl,r1.kept Q,r2.kept Q,r3.kept Q,r4.kept Q⟩
  ·obtain ⟨a1,k1,b1,d1,g1,m1,t1,v1,rfl,x1,x2,x3,x4⟩:=bi;obtain ⟨a2,k2,b2,d2,g2,m2,t2,v2,rfl,y1,y2,y3,y4⟩:=bj;exact sameState_yes (W:Int) (H:Int) a1 a2 b1 b2 k1 k2 d1 d2 n g1 g2 m1 m2 L.length v1 v2 t1 t2 zs ks (tz M) SS V x1 y1 x2 y2 hn h1 h2 x3 y3 γ x4 y4 ap ao
 ·refine stackTells_big (W:Int) (H:Int) (Ad b off) c (Ad gp op) sp zs.length T n U L.length mc S.length sc OK C C.length rfl an w K9 K8 aj (fun V u G ho=>?_) b6 ak (fun V G=>?_)
  ·obtain ⟨F,f,B,l,N,A,t,u',rfl,X,hf⟩:=ho;exact turn_big (W:Int) (H:Int) F B N t zs f n l L.length A S.length u' kd L M h V (fun V3 K=>a8 V3 F B N t f l A u' (Qc G K) (X.kept K)) (ai.kept G) h0 γ Y O.1 hyes
  ·refine (am V G).mono fun e w' hq=>?_;rcases hq with ⟨Z,_,Q⟩ | ⟨_,_,_,_,_,_,_,_,_,au,_⟩
   ·exact ⟨Z,Q⟩
   ·exact absurd ((tz_ok P ax O).2 au) hyes
theorem allS_memZ {S:List (T3×List T3)} {s:T3×List T3} (h:s∈S):s.2.length≤(allS S).length:=by
 induction S with
 | nil=>cases h
 | cons a S ih =>
  have e:(allS (a :: S)).length=a.2.length+(allS S).length:=by simp [allS]
  rcases List.mem_cons.1 h with rfl | h
  ·omega
  ·have:=ih h;omega
theorem allS_manyZ {S:List (T3×List T3)} (h:∀ s∈S,s.2≠[]):S.length≤(allS S).length:=by
 induction S with
 | nil=>simp
 | cons a S ih =>
  have e:(allS (a :: S)).length=a.2.length+(allS S).length:=by simp [allS]
  have h1:=List.length_pos_iff.2 (h a ξ);have:=ih fun s hs=>h s (List.mem_cons_of_mem _ hs);simp only [List.length_cons];omega
theorem stackTells_any (W H:Int) (a c Z K:Option Addr) (E B n x Y sc:Nat) (zs A:List Int) (M:Nat→M6) (S:List (T3×List T3)) (w:World) (hz:Row w a zs) (hk:Row w c A) (U:A.length=n*5) (h1:zs.length≤17592186044416) (h2:n≤3518437208883) (hM:MRowG w Z x M) (Q:x≤2932031007402) (hS:SRowG w K S) (O:S.length≤2932031007402) (N:∀ s∈S,s.2.length≤5864062014805) (X:Steps w) :
  Rt 3 #[.agg #[I W,I H,.slice a zs.length E,.slice c n B,.slice Z x Y,.slice K S.length sc]] w (.bool true):=by
 have o:=state_copyF W H a c Z K E B n x Y sc zs A M S w hz hk U h1 h2 hM Q hS O N;rcases state_eitherv W H a c Z K E B n x Y sc zs A M S w hz hk U h1 h2 hM Q hS O N X with ⟨q8,y⟩ | ⟨D,C,b,off,rfl,rfl,rfl,hW,hH,hl,hm,hJ,hC,aa,q8,y⟩
 ·refine stackTells_no W H a c Z K zs.length E n B x Y S.length sc (fun V u=>∃ k d l f m g t z,u=.agg #[I W,I H,.slice k zs.length d,.slice l n f,.slice m x g,.slice t S.length z]∧CopyAt V x zs A M S k l m t) w (fun V j=>(o V j).mono fun e w' ⟨k,d,l,f,m,g,t,u,he,F,_,hb⟩=>⟨_,he,⟨k,d,l,f,m,g,t,u,rfl,F⟩,hb⟩) (fun V u j G=>?_) (fun V u j G=>?_) (fun V u j G=>?_) q8
  ·obtain ⟨k,d,l,f,m,g,t,z,rfl,F⟩:=G;exact may_no W H k l m t zs d n f x g S.length z V (fun L i=>(y L k l m t d f g z (Qc j i) (F.kept i)).mono fun e w' h=>h.no)
  ·obtain ⟨k,d,l,f,m,g,t,z,rfl,F⟩:=G;exact clashes_no W H k l m t zs.length d n f x g S.length z V (fun L i=>(y L k l m t d f g z (Qc j i) (F.kept i)).mono fun e w' h=>h.no)
  ·obtain ⟨k,d,l,f,m,g,t,z,rfl,F⟩:=G;exact turn_no W H k l m t zs d n f x g S.length z V (fun L i=>y L k l m t d f g z (Qc j i) (F.kept i))
 ·have P:(ty zs D C).length≤256:=by have:=Yu zs D C hW.2;omega
  have a8:=Yl zs D C;have a7:=Kg (zs:=zs) hW.2 hH.2;obtain ⟨R,T,J⟩:=aa;subst R;have ac:=J.al;have a6:∀ s∈S,s.2.length≤300:=fun s hs=>by have:=allS_memZ hs;omega
  have a2:S.length≤300:=by have:=allS_manyZ J.ne;omega
  have ab:0<zs.length:=by
   rw [hl];exact Nat.mul_pos γ γ
  obtain ⟨gp,op,rfl,_⟩:=hM 0 hJ.1
  exact stackTells_L D C b off E n B gp op Y sc c K zs A (kdn A n) (ty zs D C) M S w o q8 y (fun V j=>(Yv D C b off E zs (.slice c n B) V (hz.kept j) hW hH hl hm).mono fun e w' ⟨v,he,G,hb⟩=>by
    obtain ⟨a9,c9,rfl,hT⟩:=Xc G;exact ⟨a9,c9,he,hT,hb⟩) (fun V j=>sheetOf_any D C (Ad b off) c E B n zs A V (hz.kept j) (hk.kept j) U h1 h2) (fun V p q r s j=>kindOf_any V _ _ _ c n B A p q r s (Xu (hk.kept j) U) (cr_one hC) h2) U h1 h2 ab hM hS X a8 a7 P hJ.1 T J a2 a6
end Go.Proofs.YtnpboeodhpenmaaGreatDoor
