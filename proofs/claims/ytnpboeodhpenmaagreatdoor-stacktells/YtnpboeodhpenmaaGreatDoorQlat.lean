/- A part of it. -/
import Derived.Test.YtnpboeodhpenmaaGreatDoorQlar
import Derived.Test.YtnpboeodhpenmaaGreatDoorQlas
import Derived.Laws.EntriesVeiled
set_option maxRecDepth 100000
set_option maxHeartbeats 40000000
namespace Go.Proofs.YtnpboeodhpenmaaGreatDoor
open Go.RowKit Go.ChangeMaps
variable {d v w w':World} {B H1 N6 Nt base e f g i j k n o r:Nat} {a pa:Option Addr} {M:Nat→M6} {zs:List Int} {b c t u:Value} {L:List T3} {Q:Exit→Act→World→Prop}
theorem HSt.add {F m j:World} {z A C D E v v':Value} {R:List (T3×Value)} {t:T3} {l:List T3} {S:List (T3×List T3)} (h:HSt F m B z A C D E v R S) (hg:m.grownBy j v.ownBlock) (y:j.ownsRow (B+1) 107 4 v' (R.length+1) (rowS R ++ [I t.1,I t.2.1,I t.2.2,u])) (hv:v'.ownBlock=v.ownBlock∨v'.ownBlock=some m.heap.size) (q:∀ g,u.ownBlock=some g→B<g∧g<m.heap.size∧v.ownBlock≠some g) (hT:TrisAt m u l) :
  HSt F (j.setCell ⟨B,5,none⟩ v') B z A C D E v' (R ++ [(t,u)]) (S ++ [(t,l)]):=by
 have b:some B≠v.ownBlock:=fun e=>by
  have:=Qw h.own B e.symm;omega
 have o:v'.ownBlock≠some B:=fun e=>by
  have:=Qw y B e;omega
 have G:=h.bel.grown hg h.bel.size (fun k J=>by have:=Qw h.own k J;have:=h.low;omega);have c:=Ql j B 5 v';have c5:=hg.cell h.c5 b;have f5:Fn j B 5:=(Fo (a:=⟨B,5,none⟩) (hg.block B h.lt b)).trans h.f5;refine ⟨Qn (hg.cell h.c0 b) γ,Qn (hg.cell h.c1 b) γ,Qn (hg.cell h.c2 b) γ,Qn (hg.cell h.c3 b) γ,Qn (hg.cell h.c4 b) γ,Jq c5,by simp [go_sem,f5], ?_, ?_,by simp [h.len], ?_,h.low,G.setCell (p:=⟨B,5,none⟩) h.low _⟩
 ·rw [rowS_add,List.length_append,List.length_singleton];exact y.kept c (Or.inr o)
 ·intro s hs g d;rcases List.mem_append.1 hs with hs | hs
  ·obtain ⟨a1,n,a3⟩:=h.apart s hs g d;refine ⟨a1,Nl n (Nt hg.size c.size),fun e=>?_⟩;rcases hv with e2 | e2
   ·exact a3 (e2 ▸ e)
   ·rw [e2] at e
    cases e;omega
  ·simp at hs;subst hs;obtain ⟨a1,n,a3⟩:=q g d;refine ⟨a1,Nl n (Nt hg.size c.size),fun e=>?_⟩;rcases hv with e2 | e2
   ·exact a3 (e2 ▸ e)
   ·rw [e2] at e
    cases e;omega
 ·intro i hi H;by_cases hiR:i<R.length
  ·have f:i<S.length:=by rw [← h.len];exact hiR
   obtain ⟨e1,e2⟩:=h.hold i hiR f;have r:(R ++ [(t,u)])[i]=R[i]:=List.getElem_append_left hiR;have x:(S ++ [(t,l)])[i]=S[i]:=List.getElem_append_left f;rw [r,x];refine ⟨e1,(e2.grown hg fun g e=>?_).grown c fun g e=>?_⟩
   ·exact fun e3=>(h.apart _ (Lm hiR) g e).2.2 e3.symm
   ·have:=(h.apart _ (Lm hiR) g e).1;intro e3
    cases e3;omega
  ·have e1:i=R.length:=by simp at hi;omega
   have e2:i=S.length:=by rw [e1,h.len]
   have r:(R ++ [(t,u)])[i]=(t,u):=by
    rw [List.getElem_append_right γ];simp [e1]
   have x:(S ++ [(t,l)])[i]=(t,l):=by
    rw [List.getElem_append_right γ];simp [e2]
   rw [r,x];refine ⟨rfl,(hT.grown hg fun g e=>?_).grown c fun g e=>?_⟩
   ·exact fun e3=>(q g e).2.2 e3.symm
   ·have:=(q g e).1;intro e3
    cases e3;omega
theorem trowG_flat {l:List T3} (h:TRowG w (Ad g o) l) (j:Nat) (u:Value) (a:(flatV l)[j]?=some u):At w g (o+j) u:=by
 have c:j<(flatV l).length:=(List.getElem?_eq_some_iff.1 a).1;rw [Xf] at c;obtain ⟨q,hq⟩:∃ q,q=j / 3:=⟨_,rfl⟩;have b:q<l.length:=γ;obtain ⟨d,f,e,c0,c1,c2⟩:=h q b
 cases e;obtain ⟨f0,f1,f2⟩:=Gb l q b;have e3:j=q*3∨j=q*3+1∨j=q*3+2:=γ;clear hq c;rcases e3 with rfl | rfl | rfl
 ·rw [f0] at a;exact c0.trans a
 ·rw [f1] at a;exact c1.trans a
 ·rw [f2] at a;exact c2.trans a
theorem mrowG_flat (h:MRowG w (Ad g o) n M):∀ j u,(flatM M n)[j]?=some u→w.cell? ((⟨g,o,none⟩:Addr).add j)=some u:=fun j u a=>by
 have d:j<n*6:=by
  rcases Nat.lt_or_ge j (n*6) with q | q
  ·exact q
  ·rw [List.getElem?_eq_none (by rw [Yt];exact q)] at a
   cases a
 have hi:j / 6<n:=γ;obtain ⟨c,f,e,c0,c1,c2,c3,c4,c5⟩:=h (j / 6) hi
 cases e;rw [Nat.add_assoc] at c1 c2 c3 c4 c5;obtain ⟨f0,f1,f2,f3,f4,f5⟩:=Gc M n (j / 6) hi;have b:(⟨g,o,none⟩:Addr).add j=⟨g,o+j,none⟩:=Gp _ _ _;rw [b];have:j % 6=0∨j % 6=1∨j % 6=2∨j % 6=3∨j % 6=4∨j % 6=5:=γ;rcases this with e | e | e | e | e | e
 ·have q:j=j / 6*6:=γ;rw [q] at a ⊢;rw [f0] at a;rw [c0];exact a
 ·have q:j=j / 6*6+1:=γ;rw [q] at a ⊢;rw [f1] at a;rw [c1];exact a
 ·have q:j=j / 6*6+2:=γ;rw [q] at a ⊢;rw [f2] at a;rw [c2];exact a
 ·have q:j=j / 6*6+3:=γ;rw [q] at a ⊢;rw [f3] at a;rw [c3];exact a
 ·have q:j=j / 6*6+4:=γ;rw [q] at a ⊢;rw [f4] at a;rw [c4];exact a
 ·have q:j=j / 6*6+5:=γ;rw [q] at a ⊢;rw [f5] at a;rw [c5];exact a
theorem run_copyT (w:World) (a:Option Addr) (l:List T3) (c:Nat) (hT:TRowG w a l) (p:l.length≤5864062014805) :
  ∃ a' c' w',(Builtin.append_ #[55,55] 55 #[SN,.slice a l.length c]).run Tryz.prog w=.ok (.slice a' l.length c') w'∧TrisAt w' (.slice a' l.length c') l∧(∀ g,(Value.slice a' l.length c').ownBlock=some g→w.heap.size≤g∧g<w'.heap.size)∧Bl w w':=by
 obtain ⟨i,hi,n,hs,f⟩:=info_parts inf23;by_cases h0:l.length=0
 ·have:=Xk (P:=Tryz.prog) w 55 55 51 i Tryz.underlying55 hi a c;refine ⟨none,0,w,by rw [h0];exact this,⟨none,0,by rw [h0],fun i hi=>by omega⟩,fun g e=>by simp [Value.ownBlock] at e,Qe _⟩
 ·obtain ⟨g,o,rfl,_⟩:=hT 0 γ;obtain ⟨v',w',hr,d,hg,_⟩:=run_append_own_at (P:=Tryz.prog) w w.heap.size 55 55 51 i (.agg #[I 0,I 0,I 0]) 3 24 Tryz.underlying55 hi n hs f rfl ψ SN 0 [] (World.ownsRow_nil w _ 51 3) ⟨g,o,none⟩ l.length c (flatV l) (Xf l) (fun j u m=>by rw [Gp];exact trowG_flat hT j u m) (Ue l) Ξ γ (Nr _);rw [Nat.zero_add,List.nil_append] at d;obtain ⟨a9,c9,rfl,b⟩:=Xc d;exact ⟨a9,c9,w',hr,⟨a9,c9,rfl,b⟩,fun g e=>d.lt g e,(Below.refl _ _).grown hg (Nr _) (fun k h=>by simp [Value.ownBlock] at h)⟩
def CopyM (w w':World) (n:Nat) (M:Nat→M6) (v:Value):Prop := ∃ a' c',v=.slice a' n c'∧(0<n→∃ g,a'=Az g∧MRow w' g n M∧w.heap.size≤g)∧Bl w w'
theorem run_copyM (w:World) (a:Option Addr) (n c:Nat) (M:Nat→M6) (f:MRowG w a n M) (m:n≤2932031007402) :
  ∃ v' w',(Builtin.append_ #[26,26] 26 #[SN,.slice a n c]).run Tryz.prog w=.ok v' w'∧CopyM w w' n M v':=by
 obtain ⟨i,hi,l,hs,j⟩:=info_parts inf59;by_cases h0:n=0
 ·subst h0;exact ⟨_,w,Xk (P:=Tryz.prog) w 26 26 91 i Tryz.underlying26 hi a c,none,0,rfl,fun h=>by omega,Qe _⟩
 ·obtain ⟨g,o,rfl,_⟩:=f 0 γ;obtain ⟨v',w',hr,b,hg,_⟩:=run_append_own_at (P:=Tryz.prog) w w.heap.size 26 26 91 i (.agg #[I 0,I 0,I 0,I 0,I 0,I 0]) 6 48 Tryz.underlying26 hi l hs j rfl ψ SN 0 [] (World.ownsRow_nil w _ 91 6) ⟨g,o,none⟩ n c (flatM M n) (Yt M n) (mrowG_flat f) (by intro u d;simp [flatM] at d;obtain ⟨i,_,d⟩:=d;rcases d with rfl | rfl | rfl | rfl | rfl | rfl <;> rfl) Ξ γ (Nr _);rw [Nat.zero_add,List.nil_append] at b;obtain ⟨e,c9,rfl⟩:=Yw b γ;exact ⟨_,w',hr,_,_,rfl,fun _=>⟨e,rfl,own_maps b,(b.lt e rfl).1⟩,(Below.refl _ _).grown hg (Nr _) (fun k h=>by simp [Value.ownBlock] at h)⟩
theorem Qat {P:Program} {b:Array Oper} {o:Oper} {a:Act} {K:Act→World→Prop} {E:Prop} (c:o.guard=none) (s x:Operand) (t:TypeId) (g:o.op=.call { callee:=.builtin .append,args:=#[s,x],argTypes:=#[t,t] }) (d e v':Value) (w':World) (hs:a.eval s=d) (i:a.eval x=e) (hr:(Builtin.append_ #[t,t] o.type #[d,e]).run P w=.ok v' w') (f:K (a.put o.dst v') w') :
  if Region.wanted o (yielded b a.tmps)=true then Oper.wp P o a w K Q else E:=by
 have h:Region.wanted o (yielded b a.tmps)=true:=by simp [Region.wanted,c]
 rw [if_pos h];exact Je s x t g d e v' w' hs i hr f
def RowX (w:World) (base B:Nat) (a:Option Addr) (zs:List Int):Prop := ∀ i (h:i<zs.length),∃ b off,a=Ad b off∧base≤b∧b≠B∧At w b (off+i) (I zs[i])
theorem RowX.row (h:RowX w base B a zs):Row w a zs:=fun i hi=>by
 obtain ⟨b,off,e,_,_,c⟩:=h i hi;exact ⟨b,off,e,c⟩
theorem RowX.kept (h:RowX w base B a zs) (c:Bl w w'):RowX w' base B a zs:=fun i hi=>by
 obtain ⟨b,off,e,h1,h2,d⟩:=h i hi;exact ⟨b,off,e,h1,h2,Qa c d⟩
theorem RowX.grown (h:RowX w base B a zs) (hg:w.grownBy w' (some B)):RowX w' base B a zs:=fun i hi=>by
 obtain ⟨b,off,e,h1,h2,c⟩:=h i hi;exact ⟨b,off,e,h1,h2,hg.cell c (by simpa using h2)⟩
theorem RowX.set (h:RowX w base B a zs) {p:Addr} (hp:p.block<base):RowX (w.setCell p u) base B a zs:=fun i hi=>by
 obtain ⟨b,off,e,h1,h2,c⟩:=h i hi;exact ⟨b,off,e,h1,h2,Qo c θ⟩
theorem RowX.setB (h:RowX w base B a zs):RowX (w.setCell ⟨B,o,none⟩ u) base B a zs:=h.grown (Ql w B o u)
theorem RowX.al (h:RowX w base B a zs) {o:Obj}:RowX (w.alloc o) base B a zs:=h.kept β1
theorem RowF.x1 {base':Nat} (h:RowF w base' a zs) (h1:base≤base') (h2:B<base'):RowX w base B a zs:=fun i hi=>by
 obtain ⟨b,off,e,d,c⟩:=h i hi;exact ⟨b,off,e,γ,γ,c⟩
theorem RowF.x2 {base':Nat} (h:RowF w base' a zs) (h1:base≤base') (h2:w.heap.size≤B):RowX w base B a zs:=fun i hi=>by
 obtain ⟨b,off,e,d,c⟩:=h i hi;have:=bk c;dsimp only at this;exact ⟨b,off,e,γ,γ,c⟩
def MapX (w:World) (base B n:Nat) (M:Nat→M6) (a:Option Addr):Prop:=0<n→∃ g,a=Az g∧MRow w g n M∧base≤g∧g≠B
theorem MapX.kept (h:MapX w base B n M a) (b:Bl w w'):MapX w' base B n M a:=fun h0=>by
 obtain ⟨g,e,h1,h2,h3⟩:=h h0;exact ⟨g,e,h1.kept b,h2,h3⟩
theorem MapX.grown (h:MapX w base B n M a) (hg:w.grownBy w' (some B)):MapX w' base B n M a:=fun h0=>by
 obtain ⟨g,e,h1,h2,h3⟩:=h h0;exact ⟨g,e,h1.grown hg (by simpa using h3),h2,h3⟩
theorem MapX.set (h:MapX w base B n M a) (hp:r<base):MapX (w.setCell ⟨r,o,none⟩ u) base B n M a:=fun h0=>by
 obtain ⟨g,e,h1,h2,h3⟩:=h h0;exact ⟨g,e,h1.grown (Ql w r o u) ω,h2,h3⟩
theorem MapX.setB (h:MapX w base B n M a):MapX (w.setCell ⟨B,o,none⟩ u) base B n M a:=h.grown (Ql w B o u)
theorem MapX.al (h:MapX w base B n M a) {o:Obj}:MapX (w.alloc o) base B n M a:=h.kept β1
theorem CopyM.x (c:0<n→∃ g,a=Az g∧MRow w' g n M∧w.heap.size≤g) (h1:base≤w.heap.size) (h2:B<w.heap.size∨w'.heap.size≤B):MapX w' base B n M a:=fun h0=>by
 obtain ⟨g,e,b,hg⟩:=c h0;have:=bk (b 0 h0).1.1;dsimp only at this;exact ⟨g,e,b,γ,γ⟩
theorem Kh {f:Array Oper} {o:Oper} {a:Act} {K:Act→World→Prop} {E:Prop} (c:o.guard=none) (s x:Operand) (l:o.op=.call { callee:=.builtin .append,args:=#[s,x],argTypes:=#[26,26] }) (d:o.type=26) (e:Option Addr) (b g:Nat) (M:Nat→M6) (hs:a.eval s=SN) (m:a.eval x=.slice e b g) (i:MRowG w e b M) (k:b≤2932031007402) (h:∀ v' w',CopyM w w' b M v'→K (a.put o.dst v') w') :
  if Region.wanted o (yielded f a.tmps)=true then Oper.wp Tryz.prog o a w K Q else E:=by
 obtain ⟨v',w',hr,j⟩:=run_copyM w e b g M i k;exact Qat c s x 26 l _ _ v' w' hs m (by rw [d];exact hr) (h v' w' j)
def set6x (w:World) (b:Nat) (u0 u1 u2 u3 u4 u5:Value):World:=(((((w.setCell ⟨b,0,none⟩ u0).setCell ⟨b,1,none⟩ u1).setCell ⟨b,2,none⟩ u2).setCell ⟨b,3,none⟩ u3).setCell ⟨b,4,none⟩ u4).setCell ⟨b,5,none⟩ u5
theorem bl_grown' {r:Option Nat} (h:Bl w v):w.grownBy v r:=⟨h.os,h.tape,h.output,h.size,fun k a _=>h.block k a⟩
theorem gb_step {b f:World} {row:Option Nat} (h:b.grownBy d (some B)) (hg:d.grownBy f row) (hr:∀ g,row=some g→b.heap.size≤g):b.grownBy f (some B) :=
 ⟨hg.os.trans h.os,hg.tape.trans h.tape,hg.output.trans h.output,Nt h.size hg.size,fun k c a=>(hg.block k (Nl c h.size) (fun e=>by have:=hr k e.symm;omega)).trans (h.block k c a)⟩
theorem fresh6a {a:World} (hg:v.heap.size=g) (b:Below ((v.alloc (.cells #[I 0,I 0,SN,SN,SN,SN] 29))).heap.size ((v.alloc (.cells #[I 0,I 0,SN,SN,SN,SN] 29))) a):BoxR a g:=by
 subst hg;have:BoxR ((v.alloc (.cells #[I 0,I 0,SN,SN,SN,SN] 29))) v.heap.size:=⟨⟨δ,δ,δ,δ,δ,δ⟩,fun q=>by simp [go_sem]⟩;exact this.kept b
theorem fresh6d {a:World} (hg:v.heap.size=g) (b:Below ((v.alloc (.cells #[I 0,I 0,SN,SN,SN,SN] 29)).drew).heap.size ((v.alloc (.cells #[I 0,I 0,SN,SN,SN,SN] 29)).drew) a):BoxR a g:=by
 subst hg;have:BoxR ((v.alloc (.cells #[I 0,I 0,SN,SN,SN,SN] 29)).drew) v.heap.size:=⟨⟨δ,δ,δ,δ,δ,δ⟩,fun q=>by simp [go_sem]⟩;exact this.kept b
theorem cell_four_new (w:World) (a b c:Int) (u:Value):∀ j x,([I a,I b,I c,u])[j]?=some x→(w.alloc (.cells #[I a,I b,I c,u] 107)).cell? ((⟨w.heap.size,0,none⟩:Addr).add j)=some x:=by
 intro j x d;match j,d with
 | 0,d=>simp at d;subst d;simp [go_sem,Addr.add]
 | 1,d=>simp at d;subst d;simp [go_sem,Addr.add]
 | 2,d=>simp at d;subst d;simp [go_sem,Addr.add]
 | 3,d=>simp at d;subst d;simp [go_sem,Addr.add]
 | j+4,d=>simp at d
structure PX (w0 w:World) (r base ra rk gm:Nat) (ad pa:Option Addr) (k:Nat) (L:List T3) (M:Nat→M6) (ks:List Int) (nk:Nat):Prop where
 pk:PK w0 w base ra rk (.slice ad L.length k) L (gix L) (kf ks nk)
 mr:MRow w gm L.length M
 tr:TRow w pa (pls L M L.length)
 lo:w0.heap.size≤r
 n1:r≠ra
 n2:r≠rk
 n3:r<base
 n4:gm≠r
 n5:∀ g,pa=Az g→g≠r
theorem PX.kept {i:World} {c:Nat} {b:Option Addr} {d:List Int} (h:PX i w r base f g c b pa k L M d e) (a:Bl w w'):PX i w' r base f g c b pa k L M d e:=⟨h.pk.kept a,h.mr.kept a,h.tr.kept a,h.lo,h.n1,h.n2,h.n3,h.n4,h.n5⟩
theorem PX.set {g:World} {b:Nat} {c:List Int} {d:Nat} (h:PX g w r base e f b a pa k L M c d) (o:Nat) (u:Value):PX g (w.setCell ⟨r,o,none⟩ u) r base e f b a pa k L M c d:=by
 have hg:=Ql w r o u;exact ⟨h.pk.grown hg h.lo h.n1 h.n2 h.n3,h.mr.grown hg (by have:=h.n4;simpa using this),h.tr.grown hg h.n5,h.lo,h.n1,h.n2,h.n3,h.n4,h.n5⟩
theorem PX.pile {j:World} {b:Nat} {c:List Int} {d:Nat} (h:PX j w r base e f b a pa k L M c d):PileAt w a k e f b g pa i L (kdn c d) M:=⟨h.pk.pa,h.pk.kl,h.mr,h.tr⟩
def OfNo (w w':World) (e:Ending):Prop := ∃ z0 k0 d0 m1 m2 z3 k3 d3 z4 k4 d4 f,e=.returned (.tuple #[.agg #[.slice z0 k0 d0,.map m1,.map m2,.slice z3 k3 d3,.slice z4 k4 d4],f,.bool false])∧Bl w w'
def SOk (kd:E4→Int) (L:List T3) (mn:Nat) (M:Nat→M6) (S:List (T3×List T3)):Prop:=mn=L.length∧MOk kd L M∧StOk L (plF (pls L M L.length)) S
theorem plF_pls (hi:i<L.length):plF (pls L M L.length) i=mvt (M i) L[i]:=by
 unfold plF pls;rw [List.getD_eq_getElem?_getD,List.getElem?_map,List.getElem?_range hi,Option.map_some,Option.getD_some,Qz L i hi]
theorem stateMay_no (W H:Int) (a c l p:Option Addr) (h d n f k j o m:Nat) (w:World) (i:Hid (∀ V:World,Bl w V→Rt 49 #[.agg #[I W,I H,.slice a h d,.slice c n f]] V (.bool false))) :
  Rt 12 #[.agg #[I W,I H,.slice a h d,.slice c n f,.slice l k j,.slice p o m]] w (.bool false):=by
 go_enter Tryz.func12,Tryz.ntmps12;go_wp2_with (go_at_call 49;refine (i.out _ Θ).mono ?_;rintro e q ⟨rfl,g⟩;have b:=Hd (Qc β1 g);clear g)
 go_ret;exact ⟨rfl,b.out⟩
def SmTo (kd:E4→Int) (L:List T3) (mn:Nat) (M:Nat→M6) (S:List (T3×List T3)) (w w':World) (e:Ending):Prop := ∃ b:Bool,e=.returned (.bool b)∧(b=true↔SOk kd L mn M S)∧Bl w w'
theorem stateMay_yes (W H:Int) (a c mp sp:Option Addr) (zl ca n cc mn mc sc:Nat) (w:World) (kd:E4→Int) (L:List T3) (M:Nat→M6) (S:List (T3×List T3))
  (CS:Hid (∀ V:World,Bl w V→Rt 49 #[.agg #[I W,I H,.slice a zl ca,.slice c n cc]] V (.bool true)))
  (CM:Hid (∀ V:World,Bl w V→Cl 50 #[.agg #[I W,I H,.slice a zl ca,.slice c n cc],.slice mp mn mc] V fun e w'=>MmTo kd L mn M V w' e))
  (CT:Hid (∀ V:World,Bl w V→Cl 51 #[.agg #[I W,I H,.slice a zl ca,.slice c n cc]] V fun e w'=>∃ a9 c9,e=.returned (.slice a9 L.length c9)∧TRow w' a9 L∧Bl V w'))
  (hM:MRowG w mp mn M) (hS:SRowG w sp S) (bq:L.Nodup) (hL:L.length≤256) (ar:∀ t∈L,(0≤t.1∧t.1≤8)∧(0≤t.2.1∧t.2.1≤8)∧(0≤t.2.2∧t.2.2≤3)) (cl:S.length≤17592186044416) (be:∀ s∈S,s.2.length≤17592186044416) :
  Cl 12 #[.agg #[I W,I H,.slice a zl ca,.slice c n cc,.slice mp mn mc,.slice sp S.length sc]] w fun e w'=>SmTo kd L mn M S w w' e:=by
 have T:Hid (MRowG w mp mn M∧SRowG w sp S∧L.Nodup∧(∀ t∈L,(0≤t.1∧t.1≤8)∧(0≤t.2.1∧t.2.1≤8)∧(0≤t.2.2∧t.2.2≤3))∧∀ s∈S,s.2.length≤17592186044416):=⟨hM,hS,bq,ar,be⟩;have b7:Hid (∀ t∈L,Kd t):=fun t D=>(ar t D).2.2;have cg:=neq23;clear hM hS bq ar be;go_enter Tryz.func12,Tryz.ntmps12
 go_upto_if 20 with (first
  | (go_at_call 49;refine (CS.out _ Θ).mono ?_;rintro e w2 ⟨rfl,E⟩;have aj:=Hd E;have s0:At w2 w.heap.size 0 (I W):=Qa E δ;have s1:At w2 w.heap.size 1 (I H):=Qa E δ;have s2:At w2 w.heap.size 2 (.slice a zl ca):=Qa E δ;have s3:At w2 w.heap.size 3 (.slice c n cc):=Qa E δ;have s4:At w2 w.heap.size 4 (.slice mp mn mc):=Qa E δ;have zs:=Bt s0;clear E)
  | (go_at_call 50;refine (CM.out _ (Qc β1 aj.out)).mono ?_;rintro e w3 ⟨bm,rfl,bi,E⟩;have d:=H2 (Qc aj.out E) bi;clear bi E))
 clear s0 s1 s2 s3 s4 zs aj;obtain ⟨WB,ap⟩:∃ WB,WB=(w.alloc (.cells #[I W,I H,.slice a zl ca,.slice c n cc,.slice mp mn mc,.slice sp S.length sc] 29)):=⟨_,rfl⟩
 have o:Hid ((At WB w.heap.size 0 (I W)∧At WB w.heap.size 1 (I H)∧At WB w.heap.size 2 (.slice a zl ca)∧At WB w.heap.size 3 (.slice c n cc)∧At WB w.heap.size 4 (.slice mp mn mc)∧At WB w.heap.size 5 (.slice sp S.length sc))∧Bl w WB):=by
  rw [ap];exact ⟨⟨δ,δ,δ,δ,δ,δ⟩,Qb (Qe _)⟩
 rw [← ap] at d;clear ap
 cases bm
 ·go_wp2;go_ret;refine ⟨false,rfl, ?_,Qc o.out.2 d.out.1⟩;simp only [Bool.false_eq_true,false_iff];intro h;have:=d.out.2.2 ⟨h.1,(Kr T.out.2.2.1 b7.out).2 h.2.1⟩
  cases this
 ·obtain ⟨cd,bp⟩:=d.out.2.1 rfl;subst cd;have b8:Hid (MOk kd L M):=(Kr T.out.2.2.1 b7.out).1 bp;clear bp;have s0:=Qa d.out.1 o.out.1.1;have s1:=Qa d.out.1 o.out.1.2.1;have s2:=Qa d.out.1 o.out.1.2.2.1;have s3:=Qa d.out.1 o.out.1.2.2.2.1;have zs:=Bt s0;go_wp2_with (go_at_call 51;refine (CT.out _ (Qc o.out.2 d.out.1)).mono ?_;rintro e w4 ⟨a9,c9,rfl,bf,E⟩;have a8:=H2 (Qc d.out.1 E) bf;clear bf E)
  clear s0 s1 s2 s3 zs;go_loopg [4,5] S.length (fun gk s4 s5 wx=>∃ m:Nat,m≤S.length∧gk=S.length - m∧s4=I ((allS (S.take m)).length:Int)∧s5=I (m:Int)∧Pre L (plF (pls L M L.length)) S m∧Bl w4 wx)
  case atStart=>exact ⟨0,γ,rfl,by simp [allS],rfl,pre_zero _ _ _,Qe _⟩
  case round =>
   obtain ⟨m,hm,rfl,rfl,rfl,J,hB⟩:=hrel;have HI:=H4 J hB (Qc a8.out.1 hB) (Qc o.out.2 (Qc a8.out.1 hB))
   have bo:(allS (S.take m)).length≤256:=Nt (Zv _ L J.nd fun t D=>by
    unfold allS at D;rw [List.mem_flatMap] at D;obtain ⟨s,hs,D⟩:=D;obtain ⟨q,hq,e⟩:=List.getElem_of_mem hs;rw [List.getElem_take] at e;rw [List.length_take] at hq;obtain ⟨i,hi,e1,_⟩:=J.pl q γ γ t (e ▸ D);exact e1 ▸ Lm hi) hL
   obtain ⟨cnt,au⟩:∃ cnt,cnt=(allS (S.take m)).length:=⟨_,rfl⟩;rw [← au] at bo ⊢;have ak:=Hd au;clear J hB au;have s5:=Qa HI.out.2.2.1 o.out.1.2.2.2.2.2;have zs:=Bt s5;by_cases h1:m<S.length
   ·have i1:(m:Int)<(S.length:Int):=γ;have i0:(0:Int)≤(m:Int):=γ;obtain ⟨gs,os,sa,ae,rfl,c0,c1,c2,c3,bj,bg⟩:=(T.out.2.1.kept HI.out.2.2.2) m h1;have bc:=Hd bg;have ct:=Bt c0;obtain ⟨X,Y,K,aq⟩:∃ X Y K,S[m].1=(X,Y,K):=⟨_,_,_,rfl⟩;obtain ⟨l,hl⟩:∃ l,l=S[m].2.length:=⟨_,rfl⟩;rw [aq] at c0 c1 c2;rw [← hl] at c3 bj;dsimp only at c0 c1 c2;have r:=H2 aq hl
    have cn:l≤17592186044416:=by
     rw [hl];exact T.out.2.2.2.2 _ (Lm h1)
    clear bg aq hl;go_upto_region 9 with fail
    refine Qi (fun U hW0=>?_);obtain ⟨B,Q⟩:∃ B,B=wr.heap.size:=⟨_,rfl⟩
    have N:Hid (Bl wr U):=by
     have:Bl wr U:=by
      rw [hW0];with_reducible repeat (first | exact Qe _ | refine Qb ?_ | refine Qh ?_ ?_)
      all_goals (dsimp only;omega)
     exact this
    have x0:At U B 0 (I X):=by rw [hW0,Q];simp [go_sem]
    have x1:At U B 1 (I Y):=by rw [hW0,Q];simp [go_sem]
    have x2:At U B 2 (I K):=by rw [hW0,Q];simp [go_sem]
    have x3:At U B 3 (.slice sa l ae):=by rw [hW0,Q];simp [go_sem]
    rw [← Q];replace s5:=Qa N.out s5;clear hW0 Q c0 c1 c2 c3;have zB:=Bt x0;replace zs:w.heap.size<U.heap.size:=bk s5
    obtain ⟨bb,u⟩:∃ bb:Bool,Hid (bb=false↔(l≠0∧∀ q (h:q+1=m),ltT (S[q]'γ).1 S[m].1)):=by
     by_cases q:l≠0∧∀ q (h:q+1=m),ltT (S[q]'γ).1 S[m].1
     ·exact ⟨false,⟨fun _=>q,fun _=>rfl⟩⟩
     ·exact ⟨true,⟨(fun h=>by cases h),fun h=>absurd h q⟩⟩
    go_cut [56] (fun cf wx=>cf=.bool bb∧Bl U wx)
    case first =>
     by_cases hl0:l=0
     ·have b:Hid (bb=true):=by
       cases q:bb
       ·exact absurd hl0 (u.out.1 q).1
       ·exact rfl
      subst hl0;obtain ⟨kc,kn⟩:=kcn U;refine wk ?_;repeat (go_big_quiet_step (fail))
      refine kq1 (fun wq hq=>?_);clear kc kn;go_wp2;go_meet
      case rel=>exact ⟨by rw [b.out],hq⟩
     ·have ql:((l:Int) == 0)=false:=by simpa using hl0
      by_cases hm0:m=0
      ·have b:Hid (bb=false):=u.out.2 ⟨hl0,fun q h=>by omega⟩;subst hm0;obtain ⟨kc,kn⟩:=kcn U;refine wk ?_;repeat (go_big_quiet_step (fail))
       refine kq1 (fun wq hq=>?_);clear kc kn;go_wp2;go_meet
       case rel=>exact ⟨by rw [b.out],hq⟩
      ·obtain ⟨R,rfl⟩:∃ R,m=R+1:=⟨m - 1,γ⟩;have cb:R<S.length:=γ;obtain ⟨cj,cp,cr,ci,e1,d0,d1,d2,_,_,_⟩:=(T.out.2.1.kept (Qc HI.out.2.2.2 N.out)) R cb
       cases e1;obtain ⟨X',Y',K',Z⟩:∃ X Y K,S[R].1=(X,Y,K):=⟨_,_,_,rfl⟩;rw [Z] at d0 d1 d2;dsimp only at d0 d1 d2;have cv:=Bt d0;obtain ⟨lb,aw⟩:∃ lb,lb=ltB (X',Y',K') (X,Y,K):=⟨_,rfl⟩;have HC:Hid (∀ W:World,Rt 52 #[.agg #[I X',I Y',I K'],.agg #[I X,I Y,I K]] W (.bool lb)):=fun W=>aw ▸ Vv X' Y' K' X Y K W
       have b:Hid (bb = !lb):=by
        have bn:lb=true↔ltT S[R].1 S[R+1].1:=by rw [aw,Z,r.out.1];exact Ud
        have:bb = !lb:=by
         cases q:bb
         ·rw [bn.2 ((u.out.1 q).2 R rfl)];rfl
         ·cases q2:lb
          ·rfl
          ·have:=u.out.2 ⟨hl0,fun q' h'=>by
            obtain rfl:q'=R:=γ;exact bn.1 q2⟩
           rw [q] at this
           cases this
        exact this
       have im:(0:Int)<((R+1:Nat):Int):=γ;have em:((R+1:Nat):Int) - 1=(R:Int):=γ;have co:(R:Int)<(S.length:Int):=γ;clear aw Z hl0;obtain ⟨kc,kn⟩:=kcn U;refine wk ?_;repeat (go_big_quiet_step ((first | (go_at_call 52;exact Qf (HC.out _)))))
       refine kq1 (fun wq hq=>?_);clear kc kn;go_wp2;go_meet
       case rel=>exact ⟨by rw [b.out],hq⟩
    case rest =>
     obtain ⟨rfl,f⟩:=hcut;obtain ⟨W9,bh⟩:∃ W9,W9=wc:=⟨_,rfl⟩;rw [← bh] at f ⊢;clear bh;have v:=H4 (Qc N.out f) (Qc HI.out.2.1 (Qc N.out f)) (Qc HI.out.2.2.1 (Qc N.out f)) (Qc HI.out.2.2.2 (Qc N.out f));have HX:=H4 (Qa f x0) (Qa f x1) (Qa f x2) (Qa f x3);clear x0 x1 x2 x3 zB s5 zs f
     cases bb
     ·have b9:Hid (Pri L (plF (pls L M L.length)) S m 0 h1):=HI.out.1.start h1 (fun e=>(u.out.1 rfl).1 (by rw [r.out.2,e];rfl)) (u.out.1 rfl).2;go_wp2;go_loopg [4,7] l (fun gk s4 s7 wx=>∃ k:Nat,k≤l∧gk=l - k∧s4=I ((cnt+k:Nat):Int)∧s7=I (k:Int)∧Pri L (plF (pls L M L.length)) S m k h1∧Bl W9 wx)
      case atStart=>exact ⟨0,γ,rfl,ξ,rfl,b9.out,Qe _⟩
      case round =>
       clear b9 u;obtain ⟨k,hk,rfl,rfl,rfl,A,an⟩:=hrel;have HJ:=H2 A an
       have cm:cnt+k≤256:=by
        have h9:=Zv _ L A.nd fun t D=>by
         rcases List.mem_append.1 D with D | D
         ·unfold allS at D;rw [List.mem_flatMap] at D;obtain ⟨s,hs,D⟩:=D;obtain ⟨q,hq,e⟩:=List.getElem_of_mem hs;rw [List.getElem_take] at e;rw [List.length_take] at hq;obtain ⟨i,hi,e1,_⟩:=A.pre.pl q γ γ t (e ▸ D);exact e1 ▸ Lm hi
         ·obtain ⟨q,hq,e⟩:=List.getElem_of_mem D;rw [List.getElem_take] at e;rw [List.length_take] at hq;obtain ⟨i,hi,e1,_⟩:=A.pl q γ γ;rw [← e,← e1];exact Lm hi
        rw [List.length_append,← ak.out,List.length_take,← r.out.2,Nat.min_eq_left hk] at h9;omega
       obtain ⟨x0,x1,x2,x3⟩:=HX.out;replace x3:=Qa an x3;have zB:=Bt x3;clear A an x0 x1 x2;by_cases h2:k<l
       ·have k1:(k:Int)<(l:Int):=γ;have k0:(0:Int)≤(k:Int):=γ;have ac:k<S[m].2.length:=by rw [← r.out.2];exact h2
        obtain ⟨ga,oa,rfl,t0,t1,t2⟩:=((bc.out.kept v.out.1).kept HJ.out.2) k ac;obtain ⟨x,y,z,a7⟩:∃ x y z,S[m].2[k]=(x,y,z):=⟨_,_,_,rfl⟩;rw [a7] at t0 t1 t2;dsimp only at t0 t1 t2;have ab:=Hd a7;have zt:=Bt t0;clear a7;obtain ⟨pj,ay⟩:∃ p,p=plc L (x,y,z):=⟨_,rfl⟩;have bs:Hid (∀ P:World,Bl wr P→Rt 53 #[.slice a9 L.length c9,.agg #[I x,I y,I z]] P (I pj)):=fun P ao=>ay ▸ Xp _ c9 L _ _ _ P (a8.out.2.kept (Qc v.out.2.1 (Qc HJ.out.2 ao))) hL;have ba:=Hd ay;clear ay;go_upto_region 15 with (go_at_call 53;refine (bs.out _ φ).mono ?_;rintro e w5 ⟨rfl,E⟩;have O:Hid (Bl wr w5):=Qc φ E;clear E)
        replace x3:=Qa O.out x3;replace t0:=Qa O.out t0;replace t1:=Qa O.out t1;replace t2:=Qa O.out t2;have C:Bl W9 w5:=Qc HJ.out.2 O.out;have x0:=Qa C HX.out.1;have x1:=Qa C HX.out.2.1;have x2:=Qa C HX.out.2.2.1;have s4:=Qa (Qc v.out.2.2.1 C) o.out.1.2.2.2.2.1;replace zB:B<w5.heap.size:=bk x3;replace zt:ga<w5.heap.size:=bk t0;have zs:=Bt s4;have aa:=H3 C (Qc v.out.2.2.2 C) (Qc v.out.2.1 C);clear C
        obtain ⟨b2,g⟩:∃ b2:Bool,Hid (b2=false↔((∃ i,∃ h:i<L.length,L[i]=(x,y,z)∧mvt (M i) L[i]=(X,Y,K))∧(x,y,z) ∉ S[m].2.take k)):=by
         by_cases q:(∃ i,∃ h:i<L.length,L[i]=(x,y,z)∧mvt (M i) L[i]=(X,Y,K))∧(x,y,z) ∉ S[m].2.take k
         ·exact ⟨false,⟨fun _=>q,fun _=>rfl⟩⟩
         ·exact ⟨true,⟨(fun h=>by cases h),fun h=>absurd h q⟩⟩
        go_cut [100] (fun br wx=>br=.bool b2∧Bl w5 wx)
        case first =>
         rcases plc_bd L (x,y,z) with hp | ⟨j,hj,hp⟩
         ·have ej:pj=-1:=ba.out.trans hp;subst ej
          have b:Hid (b2=true):=by
           cases q:b2
           ·obtain ⟨⟨i,hi,e,_⟩,_⟩:=g.out.1 q;have:=plc_self T.out.2.2.1 hi;rw [e,hp] at this;omega
           ·exact rfl
          clear hp;obtain ⟨kc,kn⟩:=kcn w5;refine wk ?_;repeat (go_big_quiet_step (fail))
          refine kq1 (fun wq hq=>?_);clear kc kn;go_wp2;go_meet
          case rel=>exact ⟨by rw [b.out],hq⟩
         ·have ej:pj=(j:Int):=ba.out.trans hp;subst ej;have F:L[j]=(x,y,z):=plc_get hj hp;have j1:(j:Int)<(L.length:Int):=γ;have j0:(0:Int)≤(j:Int):=γ;have jn:¬ (j:Int)<0:=γ;obtain ⟨gm,om,rfl,v0,v1,v2,v3,v4,v5⟩:=(T.out.1.kept aa.out.2.1) j hj;have zv:=Bt v0;obtain ⟨A',B',C',D',E',F',a2⟩:∃ c0 c1 c2 c3 c4 c5,M j=(c0,c1,c2,c3,c4,c5):=⟨_,_,_,_,_,_,rfl⟩;rw [a2] at v0 v1 v2 v3 v4 v5;dsimp only at v0 v1 v2 v3 v4 v5;obtain ⟨g9,rfl,l0,l1,l2⟩:=(a8.out.2.kept aa.out.2.2) j hj;rw [F] at l0 l1 l2;dsimp only at l0 l1 l2;have cu:=Bt l0;obtain ⟨px,py,pk,ad⟩:∃ px py pk,mvt (A',B',C',D',E',F') (x,y,z)=(px,py,pk):=⟨_,_,_,rfl⟩
          have b5:Hid (∀ P:World,Rt 54 #[.agg #[I A',I B',I C',I D',I E',I F'],.agg #[I x,I y,I z]] P (.agg #[I px,I py,I pk])):=fun P=>by
           have h8:=(b8.out.1 j hj).1;rw [a2] at h8;have:=Yh (A',B',C',D',E',F') (x,y,z) P h8 (by have:=T.out.2.2.2.1 _ (Lm hj);rw [F] at this;exact this);rw [ad] at this;exact this
          have ag:Hid ((∃ i,∃ h:i<L.length,L[i]=(x,y,z)∧mvt (M i) L[i]=(X,Y,K))↔sameT px py pk X Y K=true):=by
           have:(∃ i,∃ h:i<L.length,L[i]=(x,y,z)∧mvt (M i) L[i]=(X,Y,K))↔sameT px py pk X Y K=true:=by
            simp only [sameT,decide_eq_true_eq];constructor
            ·rintro ⟨i,hi,e1,e2⟩;have:=Jj T.out.2.2.1 hi hj (e1.trans F.symm);subst this;rw [a2,F,ad] at e2;simpa using e2
            ·intro h;exact ⟨j,hj,F,by rw [a2,F,ad];simpa using h⟩
           exact this
          clear hp F a2 ad
          cases hst:sameT px py pk X Y K
          ·have b:Hid (b2=true):=by
            cases q:b2
            ·have:=ag.out.1 (g.out.1 q).1;rw [hst] at this
             cases this
            ·exact rfl
           obtain ⟨kc,kn⟩:=kcn w5;refine wk ?_;repeat (go_big_quiet_step ((first | (go_at_call 54;exact Qf (b5.out _)))))
           refine kq1 (fun wq hq=>?_);clear kc kn;go_wp2;go_meet
           case rel=>exact ⟨by rw [b.out],hq⟩
          ·obtain ⟨p2,ax⟩:∃ p,p=plc (S[m].2.take k) (x,y,z):=⟨_,rfl⟩
           have az:Hid (∀ P:World,Bl w5 P→Rt 53 #[.slice (Ad ga oa) k ae,.agg #[I x,I y,I z]] P (I p2)):=fun P ao=>by
            have ce:=((((bc.out.kept v.out.1).kept HJ.out.2).kept O.out).kept ao).take k;have bz:(S[m].2.take k).length=k:=γ6;have:=placeG_any (Ad ga oa) ae (S[m].2.take k) x y z P ce γ;rw [bz,← ax] at this;exact this
           have b:Hid (b2=decide (0≤p2)):=by
            have h9:0≤p2↔(x,y,z)∈S[m].2.take k:=by rw [ax];exact plc_neg
            have:b2=decide (0≤p2):=by
             cases q:b2
             ·symm
              rw [decide_eq_false_iff_not,h9];exact (g.out.1 q).2
             ·symm
              rw [decide_eq_true_eq,h9];refine Classical.byContradiction fun G=>?_;have:=g.out.2 ⟨ag.out.2 hst,G⟩;rw [q] at this
              cases this
            exact this
           have ch:(k:Int)≤(ae:Int):=γ;clear ax;obtain ⟨kc,kn⟩:=kcn w5;refine wk ?_;repeat (go_big_quiet_step ((first | (go_at_call 54;exact Qf (b5.out _)) | (go_at_call 53;exact Qf (az.out _ (Kin.h _))))))
           refine kq1 (fun wq hq=>?_);clear kc kn;go_wp2;go_meet
           case rel=>exact ⟨by rw [b.out],hq⟩
        case rest =>
         obtain ⟨rfl,am⟩:=hcut;have b6:=H2 (Qc aa.out.1 am) (Qc aa.out.2.1 am);clear x0 x1 x2 x3 t0 t1 t2 s4 zB zt zs am
         cases b2
         ·have bv:Hid (Pri L (plF (pls L M L.length)) S m (k+1) h1):=by
           obtain ⟨⟨i,hi,e1,e2⟩,G⟩:=g.out.1 rfl;have ah:∃ i,∃ h':i<L.length,L[i]=S[m].2[k]∧plF (pls L M L.length) i=S[m].1:=⟨i,hi,by rw [ab.out];exact e1,by rw [plF_pls hi,r.out.1];exact e2⟩;exact HJ.out.1.step ac ah (HJ.out.1.none T.out.2.2.1 ah (by rw [ab.out];exact G))
          go_wp2;go_roundg (l - (k+1))
          case measure=>omega
          case rel=>exact ⟨k+1,γ,rfl,σ,σ,bv.out,b6.out.1⟩
         ·go_wp2;go_ret;refine ⟨false,rfl, ?_,b6.out.2⟩;simp only [Bool.false_eq_true,false_iff];intro a6
          have G:¬ ((∃ i,∃ h:i<L.length,L[i]=(x,y,z)∧mvt (M i) L[i]=(X,Y,K))∧(x,y,z) ∉ S[m].2.take k):=fun h=>by
           have:=g.out.2 h
           cases this
          obtain ⟨j,hj,e1,e2⟩:=a6.2.2.pl _ (Lm h1) _ (Lm ac);rw [ab.out] at e1;rw [r.out.1,plF_pls hj] at e2;refine G ⟨⟨j,hj,e1,e2⟩,fun ai=>?_⟩;rw [← ab.out] at ai;exact not_nd T.out.2.2.1 h1 ac (List.mem_append_right _ ai) a6.2.2
       ·have k1:¬ (k:Int)<(l:Int):=γ;have av:k=S[m].2.length:=by rw [← r.out.2];omega
        have af:Hid (Pre L (plF (pls L M L.length)) S (m+1)∧cnt+k=(allS (S.take (m+1))).length):=by
         refine ⟨HJ.out.1.fin av, ?_⟩;rw [Uh h1,List.length_append,ak.out,av]
        have bt:=Hd (Qc v.out.2.1 HJ.out.2);clear av;go_wp2;go_roundg (S.length - (m+1))
        case measure=>omega
        case rel=>exact ⟨m+1,γ,rfl,by rw [← af.out.2];go_num,σ,af.out.1,bt.out⟩
     ·go_wp2;go_ret;refine ⟨false,rfl, ?_,v.out.2.2.2⟩;simp only [Bool.false_eq_true,false_iff];intro a6
      have G:¬ (l≠0∧∀ q (h:q+1=m),ltT (S[q]'γ).1 S[m].1):=fun h=>by
       have:=u.out.2 h
       cases this
      refine G ⟨fun e=>not_ne h1 (by rw [← r.out.2];exact e) a6.2.2,fun q h=>?_⟩;subst h;exact a6.2.2.up q h1
   ·have i1:¬ (m:Int)<(S.length:Int):=γ;obtain rfl:m=S.length:=γ
    have bu:Hid (((cnt:Int) == (L.length:Int))=true↔SOk kd L L.length M S):=by
     have:((cnt:Int) == (L.length:Int))=true↔SOk kd L L.length M S:=by
      have bw:=ak.out;rw [List.take_length] at bw;rw [beq_iff_eq];constructor
      ·intro h;exact ⟨rfl,b8.out,HI.out.1.ok rfl γ⟩
      ·intro h;have:=h.2.2.al;omega
     exact this
    go_wp2;go_ret;exact ⟨_,rfl,bu.out,HI.out.2.2.2⟩
def CopyAt (V:World) (mn:Nat) (zs ks:List Int) (M:Nat→M6) (S:List (T3×List T3)) (a' b' ma t:Option Addr):Prop:=Row V a' zs∧Row V b' ks∧(0<mn→∃ g,ma=Az g∧MRow V g mn M)∧SRow V t S
theorem CopyAt.kept {V b:World} {f:List Int} {S:List (T3×List T3)} {c d i t:Option Addr} (h:CopyAt V j zs f M S c d i t) (a:Bl V b):CopyAt b j zs f M S c d i t :=
 ⟨h.1.kept a,h.2.1.kept a,fun h0=>by obtain ⟨g,e,k⟩:=h.2.2.1 h0;exact ⟨g,e,k.kept a⟩,h.2.2.2.kept a⟩
def tov (m:M6):Bool:=decide (m.1*m.2.2.2.1 - m.2.1*m.2.2.1<0)
theorem map_kinds {A B C D E F:Int} (h:mapM (A,B,C,D,E,F)=true):((A=1∨A=-1)∧B=0∧C=0∧(D=1∨D=-1))∨(A=0∧(B=1∨B=-1)∧(C=1∨C=-1)∧D=0):=by
 unfold mapM mapB at h;simp [unitB] at h;omega
theorem turnsOver_any (A B C D E F:Int) (w:World) (h:mapM (A,B,C,D,E,F)=true) :
  Rt 74 #[.agg #[I A,I B,I C,I D,I E,I F]] w (.bool (tov (A,B,C,D,E,F))):=by
 rcases map_kinds h with ⟨rfl | rfl,rfl,rfl,rfl | rfl⟩ | ⟨rfl,rfl | rfl,rfl | rfl,rfl⟩
 all_goals
  clear h;go_enter Tryz.func74,Tryz.ntmps74;go_wp2;go_ret;refine ⟨by simp [tov,go_sem], ?_⟩;with_reducible repeat (first | exact Qe _ | refine Qb ?_ | refine Qh ?_ ?_)
theorem turnedOver_any (w:World) (v0 j k v4:Value) (c n g i:Nat) (M:Nat→M6) (d:MRow w c n M) (hi:i<n) (_l:n≤300) (h:mapM (M i)=true) :
  Rt 72 #[.agg #[v0,j,k,.slice (Az c) n g,v4],I (i:Int)] w (.bool (tov (M i))):=by
 obtain ⟨⟨b,y1,y2,y3,e,f⟩,_⟩:=d i hi;obtain ⟨A,B,C,D,E,F,a⟩:∃ A B C D E F,M i=(A,B,C,D,E,F):=⟨_,_,_,_,_,_,rfl⟩;rw [a] at b y1 y2 y3 e f h ⊢;dsimp only at b y1 y2 y3 e f;have o:(i:Int)<(n:Int):=γ;have m:(0:Int)≤(i:Int):=γ;have p:=Bt b;clear a d;rcases map_kinds h with ⟨rfl | rfl,rfl,rfl,rfl | rfl⟩ | ⟨rfl,rfl | rfl,rfl | rfl,rfl⟩
 all_goals
  clear h;go_enter Tryz.func72,Tryz.ntmps72;go_wp2;go_ret;refine ⟨by simp [tov,go_sem], ?_⟩;with_reducible repeat (first | exact Qe _ | refine Qb ?_ | refine Qh ?_ ?_)
theorem Uc {u x M:Int} (h1 : -2≤u) (h2:u≤2) (h3 : -M≤x) (h4:x≤M) : -(2*M)≤u*x∧u*x≤2*M:=by
 have a:u=-2∨u=-1∨u=0∨u=1∨u=2:=γ;rcases a with rfl | rfl | rfl | rfl | rfl <;> omega
structure SdB (p q r s a0 a1 a2 a3 a4 a5:Int):Prop where
 hp : -4000000≤p∧p≤4000000
 hq : -4000000≤q∧q≤4000000
 hr : -2≤r - p∧r - p≤2
 hs : -2≤s - q∧s - q≤2
 h0 : -4000000≤a0∧a0≤4000000
 h1 : -4000000≤a1∧a1≤4000000
 h2 : -4000000≤a2∧a2≤4000000
 h3 : -4000000≤a3∧a3≤4000000
 h4 : -4000000≤a4∧a4≤4000000
 h5 : -4000000≤a5∧a5≤4000000
def sdM (p q r s a0 a1 a2 a3 a4 a5:Int):Nat→Int
 | 0=>0
 | 1=>0+((r - p)*(a1 - q) - (s - q)*(a0 - p))
 | 2=>0+((r - p)*(a1 - q) - (s - q)*(a0 - p))+((r - p)*(a3 - q) - (s - q)*(a2 - p))
 | _=>0+((r - p)*(a1 - q) - (s - q)*(a0 - p))+((r - p)*(a3 - q) - (s - q)*(a2 - p))+((r - p)*(a5 - q) - (s - q)*(a4 - p))
def sdR (n:Int):Int:=if 0<n then 1 else 0
theorem side_num (w:World) (v0 F G v3:Value) (g v E i:Nat) (p q r s x y k a0 a1 b a3 a4 a5:Int) (A:SdB p q r s a0 a1 b a3 a4 a5) (c0:At w g (i*3) (I x)) (c1:At w g (i*3+1) (I y)) (c2:At w g (i*3+2) (I k)) (t:(i:Int)<(v:Int))
  (f:Hid (∀ V:World,Bl w V→Rt 255 #[.agg #[I x,I y,I k]] V (.tuple #[.agg #[I a0,I a1,I b,I a3,I a4,I a5],I 0]))) :
  Rt 190 #[.agg #[v0,F,G,v3,.slice (Az g) v E],.agg #[I p,I q,I r,I s],I (i:Int)] w (I (sdR (sdM p q r s a0 a1 b a3 a4 a5 3))):=by
 have o:(0:Int)≤(i:Int):=γ;have z:=Bt c0;obtain ⟨⟨p0,p1⟩,⟨q0,q1⟩,⟨r0,r1⟩,⟨s0,s1⟩,⟨Q,R⟩,⟨T,g3⟩,⟨U,W⟩,⟨X,Y⟩,⟨Z,g9⟩,ga,gb⟩:=A;obtain ⟨y0,L⟩:=Uc (u:=r - p) (x:=a1 - q) (M:=8000000) γ γ γ γ;obtain ⟨x0,H⟩:=Uc (u:=s - q) (x:=a0 - p) (M:=8000000) γ γ γ γ;obtain ⟨y1,O⟩:=Uc (u:=r - p) (x:=a3 - q) (M:=8000000) γ γ γ γ;obtain ⟨x1,J⟩:=Uc (u:=s - q) (x:=b - p) (M:=8000000) γ γ γ γ;obtain ⟨y2,P⟩:=Uc (u:=r - p) (x:=a5 - q) (M:=8000000) γ γ γ γ;obtain ⟨x2,K⟩:=Uc (u:=s - q) (x:=a4 - p) (M:=8000000) γ γ γ γ;have hi:=fun w=>index3 (I a0) (I a1) (I b) (I a3) (I a4) (I a5) w;have B:=fun w=>(hi w).1;have C:=fun w=>(hi w).2.1;have D:=fun w=>(hi w).2.2;clear hi;have m:∀ n:Int,n=sdM p q r s a0 a1 b a3 a4 a5 3→n=0+((r - p)*(a1 - q) - (s - q)*(a0 - p))+((r - p)*(a3 - q) - (s - q)*(b - p))+((r - p)*(a5 - q) - (s - q)*(a4 - p)):=fun n h=>h;obtain ⟨N,l⟩:∃ N,N=sdM p q r s a0 a1 b a3 a4 a5 3:=⟨_,rfl⟩;rw [← l];have c:=m N l;clear m l;by_cases hpos:0<0+((r - p)*(a1 - q) - (s - q)*(a0 - p))+((r - p)*(a3 - q) - (s - q)*(b - p))+((r - p)*(a5 - q) - (s - q)*(a4 - p))
 ·have j:Hid (sdR N=1):=if_pos (by rw [c];exact hpos);clear c;go_enter Tryz.func190,Tryz.ntmps190;go_wp2_with (go_at_call 255;(with_reducible refine (f.out _ Ψ).mono ?_);rintro e w1 ⟨rfl,a⟩;have e0:At w1 (w.heap.size+1) 0 (I p):=Qa a δ;have e1:At w1 (w.heap.size+1) 1 (I q):=Qa a δ;have e2:At w1 (w.heap.size+1) 2 (I r):=Qa a δ;have e3:At w1 (w.heap.size+1) 3 (I s):=Qa a δ;have z1:=Bt e0;have z2:w.heap.size+1<w1.heap.size+1:=γ;have z3:w.heap.size+1<w1.heap.size+1+1:=γ;have z4:w.heap.size+1<w1.heap.size+1+1+1:=γ;have z5:w.heap.size+1<w1.heap.size+1+1+1+1:=γ;have d:=Hd (Qc β2 a);clear a)
  clear c0 c1 c2 t o z f;refine wp_loop_rounds 4 ?_;rw [rounds_succ];go_wp2;rw [rounds_succ];go_wp2;rw [rounds_succ];go_wp2;rw [rounds_succ];go_wp2;go_ret;refine ⟨Jp j.out.symm, ?_⟩;with_reducible repeat' (first | exact d.out | refine Qb ?_ | refine Qh ?_ ?_)
  all_goals (dsimp only;omega)
 ·have j:Hid (sdR N=0):=if_neg (by rw [c];exact hpos);clear c;go_enter Tryz.func190,Tryz.ntmps190;go_wp2_with (go_at_call 255;(with_reducible refine (f.out _ Ψ).mono ?_);rintro e w1 ⟨rfl,a⟩;have e0:At w1 (w.heap.size+1) 0 (I p):=Qa a δ;have e1:At w1 (w.heap.size+1) 1 (I q):=Qa a δ;have e2:At w1 (w.heap.size+1) 2 (I r):=Qa a δ;have e3:At w1 (w.heap.size+1) 3 (I s):=Qa a δ;have z1:=Bt e0;have z2:w.heap.size+1<w1.heap.size+1:=γ;have z3:w.heap.size+1<w1.heap.size+1+1:=γ;have z4:w.heap.size+1<w1.heap.size+1+1+1:=γ;have z5:w.heap.size+1<w1.heap.size+1+1+1+1:=γ;have d:=Hd (Qc β2 a);clear a)
  clear c0 c1 c2 t o z f;refine wp_loop_rounds 4 ?_;rw [rounds_succ];go_wp2;rw [rounds_succ];go_wp2;rw [rounds_succ];go_wp2;rw [rounds_succ];go_wp2;go_ret;refine ⟨Jp j.out.symm, ?_⟩;with_reducible repeat' (first | exact d.out | refine Qb ?_ | refine Qh ?_ ?_)
  all_goals (dsimp only;omega)
theorem sdB_of {x y k p q r s:Int} (b:triB x y k=true) (h:hasT (x,y,k) (p,q,r,s)=true):SdB p q r s (2*x+1) (2*y+1) (c1x x k) (c1y y k) (c2x x k) (c2y y k):=by
 have a:0≤k∧k≤3∧-1000000≤x∧x≤1000000∧-1000000≤y∧y≤1000000:=by simpa [triB] using b
 unfold hasT at h;rw [Qx] at h;dsimp only at h;have c:=Xm (show 0≤k∧k≤3 from ⟨a.1,a.2.1⟩);have a1:=c1x_bd x k;have d:=c1y_bd y k;have a3:=c2x_bd x k;have a4:=c2y_bd y k;clear b;rcases c with rfl | rfl | rfl | rfl <;> simp only [Zt,Zs,Zp,Zo,Zn,Zm,Zl,Zk,Zj,Zi,Zh,Zg] at h <;> rcases h with ⟨rfl,rfl,rfl,rfl⟩ | ⟨rfl,rfl,rfl,rfl⟩ | ⟨rfl,rfl,rfl,rfl⟩ <;> constructor <;> omega
theorem sdR_is (p q r s x y k:Int):sdR (sdM p q r s (2*x+1) (2*y+1) (c1x x k) (c1y y k) (c2x x k) (c2y y k) 3)=(sd (p,q,r,s) (x,y,k):Int):=by
 have e:sdM p q r s (2*x+1) (2*y+1) (c1x x k) (c1y y k) (c2x x k) (c2y y k) 3=sdS (p,q,r,s) (x,y,k):=by
  simp only [sdM,sdS,crs];omega
 rw [e];unfold sdR sd;by_cases h:0<sdS (p,q,r,s) (x,y,k)
 ·rw [if_pos h,if_pos h];rfl
 ·rw [if_neg h,if_neg h];rfl
theorem side_any (w:World) (v0 h j v3:Value) (pa:Option Addr) (c d i:Nat) (pl:List T3) (p q r s:Int) (l:TRow w pa pl) (hi:i<pl.length) (n:c=pl.length) (a:triT (pl.getD i (0,0,0))=true) (b:hasT (pl.getD i (0,0,0)) (p,q,r,s)=true) (hs:Steps w) :
  Rt 190 #[.agg #[v0,h,j,v3,.slice pa c d],.agg #[I p,I q,I r,I s],I (i:Int)] w (I (sd (p,q,r,s) (pl.getD i (0,0,0)):Int)):=by
 obtain ⟨g,rfl,t0,e,f⟩:=l i hi;rw [Qz pl i hi] at a b ⊢;obtain ⟨x,y,k,o⟩:∃ x y k,pl[i]=(x,y,k):=⟨_,_,_,rfl⟩;rw [o] at t0 e f a b ⊢;have:=side_num w v0 h j v3 g c d i p q r s x y k _ _ _ _ _ _ (sdB_of a b) t0 e f γ (fun V m=>Corners_yes x y k V a (hs.kept m));rw [sdR_is] at this;exact this
def fdT (kd:Int) (tv:Bool) (a b:Nat):Nat×Nat:=if tv=decide (kd=2) then (b,a) else (a,b)
theorem foldedP_any (w:World) (v0 s t v4:Value) (l n o a b:Nat) (kd:Int) (M:Nat→M6) (p:MRow w l n M) (q:a<n) (r:n≤300) (h:mapM (M a)=true) :
  Rt 192 #[.agg #[v0,s,t,.slice (Az l) n o,v4],I kd,I (a:Int),I (b:Int)] w (.agg #[I ((fdT kd (tov (M a)) a b).1:Int),I ((fdT kd (tov (M a)) a b).2:Int)]):=by
 have k:=Hd (fun (V:World) hV=>turnedOver_any V v0 s t v4 l n o a M (p.kept hV) q r h);obtain ⟨tv,j⟩:∃ tv,tv=tov (M a):=⟨_,rfl⟩;rw [← j] at k ⊢;clear p q r h j;obtain ⟨g,d⟩:∃ g,g=decide (kd=2):=⟨_,rfl⟩;have u:(kd == 2)=g:=by rw [d];by_cases e:kd=2 <;> simp [e]
 by_cases hq:tv=g
 ·have i:Hid (fdT kd tv a b=(b,a)):=if_pos (by rw [hq,d]);have m:(tv == g)=true:=by simp [hq]
  generalize fdT kd tv a b=R at i ⊢;clear hq d;go_enter Tryz.func192,Tryz.ntmps192;go_wp2_with (go_at_call 72;(with_reducible refine (k.out _ Ψ).mono ?_);rintro e w1 ⟨rfl,c⟩;have r0:At w1 (w.heap.size+1) 0 (I 0):=Qa c δ;have r1:At w1 (w.heap.size+1) 1 (I 0):=Qa c δ;have f0:Fn w1 (w.heap.size+1) 0:=(c.frozen ξ).trans δ;have f1:Fn w1 (w.heap.size+1) 1:=(c.frozen ξ).trans δ;have z1:=Bt r0;have f:=Hd (Qc β2 c);clear c)
  refine bodyPost_ret (v:=.agg #[I (b:Int),I (a:Int)]) (by simp [results,Tryz.results192,go_sem, *]) rfl ⟨by rw [i.out], ?_⟩;with_reducible repeat' (first | exact f.out | refine Qb ?_ | refine Qh ?_ ?_)
  all_goals (dsimp only;omega)
 ·have i:Hid (fdT kd tv a b=(a,b)):=if_neg (by rw [← d];exact hq);have m:(tv == g)=false:=by simp [hq]
  generalize fdT kd tv a b=R at i ⊢;clear hq d;go_enter Tryz.func192,Tryz.ntmps192;go_wp2_with (go_at_call 72;(with_reducible refine (k.out _ Ψ).mono ?_);rintro e w1 ⟨rfl,c⟩;have r0:At w1 (w.heap.size+1) 0 (I 0):=Qa c δ;have r1:At w1 (w.heap.size+1) 1 (I 0):=Qa c δ;have f0:Fn w1 (w.heap.size+1) 0:=(c.frozen ξ).trans δ;have f1:Fn w1 (w.heap.size+1) 1:=(c.frozen ξ).trans δ;have z1:=Bt r0;have f:=Hd (Qc β2 c);clear c)
  refine bodyPost_ret (v:=.agg #[I (a:Int),I (b:Int)]) (by simp [results,Tryz.results192,go_sem, *]) rfl ⟨by rw [i.out], ?_⟩;with_reducible repeat' (first | exact f.out | refine Qb ?_ | refine Qh ?_ ?_)
  all_goals (dsimp only;omega)
structure Sam (w w':World) (R:Nat→Prop):Prop where
 size:w.heap.size≤w'.heap.size
 blk:∀ k,k<w.heap.size→¬ R k→w'.heap[k]?=w.heap[k]?
theorem Sam.cell {R:Nat→Prop} (h:Sam w w' R) {a:Addr} {v:Value} (b:w.cell? a=some v) (c:¬ R a.block):w'.cell? a=some v :=
 (World.cell?_of_block (h.blk a.block (World.block_lt_of_cell? w a b) c)).trans b
theorem Sam.trans {w1 c:World} {R Q:Nat→Prop} (h1:Sam w w1 R) (h2:Sam w1 c Q):Sam w c (fun k=>R k∨Q k) :=
 ⟨Nt h1.size h2.size,fun k a b=>(h2.blk k (Nl a h1.size) fun q=>b (Or.inr q)).trans (h1.blk k a fun q=>b (Or.inl q))⟩
theorem Sam.mono {R Q:Nat→Prop} (h:Sam w w' R) (hq:∀ k,k<w.heap.size→R k→Q k):Sam w w' Q:=⟨h.size,fun k a b=>h.blk k a fun r=>b (hq k a r)⟩
theorem Sam.below {R:Nat→Prop} (h:Bl w w'):Sam w w' R:=⟨h.size,fun k a _=>h.block k a⟩
theorem Sam.grown {row:Option Nat} (h:w.grownBy w' row):Sam w w' (fun k=>row=some k):=⟨h.size,fun k a b=>h.block k a fun e=>b e.symm⟩
theorem Sam.own {R:Nat→Prop} {v:Value} {f:List Value} (h:Sam w w' R) (l:w.ownsRow base e k v n f) (j:∀ g,v.ownBlock=some g→¬ R g):w'.ownsRow base e k v n f:=by
 obtain ⟨d,h0 | ⟨g,a,b,rfl,i,c,h1,h2,h3,h4⟩⟩:=l
 ·exact ⟨d,Or.inl h0⟩
 ·exact ⟨d,Or.inr ⟨g,a,b,rfl,i,(h.blk g (Array.getElem?_eq_some_iff.1 c).1 (j g rfl)).trans c,h1,h2,h3,h4⟩⟩
theorem Sam.em {R:Nat→Prop} {c:Nat} {ls:List (E4×Value×Nat)} (h:Sam w w' R) (a:EM w r ls c) (b:¬ R r):EM w' r ls c:=(h.blk r (Array.getElem?_eq_some_iff.1 a).1 b).trans a
structure MD where
 a0:List Nat
 b0:List (Nat×Nat)
 a1:List Nat
 b1:List (Nat×Nat)
def mdZ:MD:=⟨[],[],[],[]⟩
def nV (l:List Nat):List Value:=l.map fun (i:Nat)=>I (i:Int)
def pV (l:List (Nat×Nat)):List Value:=l.flatMap fun p=>[I (p.1:Int),I (p.2:Int)]
theorem Vs (l:List Nat) (i:Nat):nV (l ++ [i])=nV l ++ [I (i:Int)]:=by simp [nV]
theorem pV_add (l:List (Nat×Nat)) (p:Nat×Nat):pV (l ++ [p])=pV l ++ [I (p.1:Int),I (p.2:Int)]:=by simp [pV]
structure Ow (w:World) (base:Nat) (s0 s1 s2 s3:Value) (D:MD):Prop where
 o0:w.ownsRow base 3 1 s0 D.a0.length (nV D.a0)
 o1:w.ownsRow base 271 2 s1 D.b0.length (pV D.b0)
 o2:w.ownsRow base 3 1 s2 D.a1.length (nV D.a1)
 o3:w.ownsRow base 271 2 s3 D.b1.length (pV D.b1)
 d0:∀ g,s0.ownBlock=some g→s2.ownBlock≠some g
 d1:∀ g,s1.ownBlock=some g→s3.ownBlock≠some g
def mtB (s0 s1 s2 s3:Value) (k:Nat):Prop:=s0.ownBlock=some k∨s1.ownBlock=some k∨s2.ownBlock=some k∨s3.ownBlock=some k
theorem Jn {s:Nat} {v v':Value} {t d:List Value} (h:w.ownsRow base e k v n t) (o:w.ownsRow base j r v' s d) (c:e≠j):∀ g,v.ownBlock=some g→v'.ownBlock≠some g:=by
 intro g hg a;obtain ⟨_,⟨rfl,_⟩ | ⟨q,l,m,rfl,_,p,_⟩⟩:=h
 ·cases hg
 ·obtain ⟨_,⟨rfl,_⟩ | ⟨u,f,i,rfl,_,b,_⟩⟩:=o
  ·cases a
  ·simp only [Value.ownBlock,Option.some.injEq] at hg a;subst hg a;rw [p] at b;simp only [Option.some.injEq,Obj.cells.injEq] at b;exact c b.2.1
theorem ow_zero (w:World) (base:Nat):Ow w base SN SN SN SN mdZ :=
 ⟨World.ownsRow_nil _ _ _ _,World.ownsRow_nil _ _ _ _,World.ownsRow_nil _ _ _ _,World.ownsRow_nil _ _ _ _,(fun g h=>by cases h),(fun g h=>by cases h)⟩
theorem Ow.sam {R:Nat→Prop} {d f:Value} {D:MD} (h:Ow w base b c d f D) (hs:Sam w w' R) (a:∀ k,mtB b c d f k→¬ R k):Ow w' base b c d f D :=
 ⟨hs.own h.o0 fun g e=>a g (Or.inl e),hs.own h.o1 fun g e=>a g (Or.inr (Or.inl e)),hs.own h.o2 fun g e=>a g (Or.inr (Or.inr (Or.inl e))),hs.own h.o3 fun g e=>a g (Or.inr (Or.inr (Or.inr e))),h.d0,h.d1⟩
theorem Ow.low {a d:Value} {D:MD} (h:Ow w base a b c d D) (f:mtB a b c d k):base≤k∧k<w.heap.size:=by
 rcases f with e | e | e | e
 ·exact h.o0.lt k e
 ·exact h.o1.lt k e
 ·exact h.o2.lt k e
 ·exact h.o3.lt k e
theorem Sam.set (w:World) (b o:Nat) (u:Value):Sam w (w.setCell ⟨b,o,none⟩ u) (fun k=>k=b):=(Sam.grown (Ql w b o u)).mono fun k _ h=>by simpa using h.symm
theorem Sam.then {w1 a:World} {R Q:Nat→Prop} (h1:Sam w w1 R) (h2:Sam w1 a Q) (hq:∀ k,k<w.heap.size→Q k→R k):Sam w a R:=(h1.trans h2).mono fun k b h=>h.elim id (hq k b)
theorem Ow.put0 {R:Nat→Prop} {j a:Value} {D:MD} (h:Ow w base j b a c D) (hs:Sam w d R) (h1:∀ g,b.ownBlock=some g→¬ R g) (h2:∀ g,a.ownBlock=some g→¬ R g) (h3:∀ g,c.ownBlock=some g→¬ R g) {l:List Nat} (i:d.ownsRow base 3 1 t l.length (nV l)) (f:∀ g,t.ownBlock=some g→a.ownBlock≠some g):Ow d base t b a c ⟨l,D.b0,D.a1,D.b1⟩ :=
 ⟨i,hs.own h.o1 h1,hs.own h.o2 h2,hs.own h.o3 h3,fun g e=>f g e,h.d1⟩
theorem Ow.put1 {R:Nat→Prop} {j a:Value} {D:MD} (h:Ow w base b j c a D) (hs:Sam w d R) (h0:∀ g,b.ownBlock=some g→¬ R g) (h2:∀ g,c.ownBlock=some g→¬ R g) (h3:∀ g,a.ownBlock=some g→¬ R g) {l:List (Nat×Nat)} (i:d.ownsRow base 271 2 t l.length (pV l)) (f:∀ g,t.ownBlock=some g→a.ownBlock≠some g):Ow d base b t c a ⟨D.a0,l,D.a1,D.b1⟩ :=
 ⟨hs.own h.o0 h0,i,hs.own h.o2 h2,hs.own h.o3 h3,h.d0,fun g e=>f g e⟩
theorem Ow.put2 {R:Nat→Prop} {a j:Value} {D:MD} (h:Ow w base a b j c D) (hs:Sam w d R) (h0:∀ g,a.ownBlock=some g→¬ R g) (h1:∀ g,b.ownBlock=some g→¬ R g) (h3:∀ g,c.ownBlock=some g→¬ R g) {l:List Nat} (i:d.ownsRow base 3 1 t l.length (nV l)) (f:∀ g,t.ownBlock=some g→a.ownBlock≠some g):Ow d base a b t c ⟨D.a0,D.b0,l,D.b1⟩ :=
 ⟨hs.own h.o0 h0,hs.own h.o1 h1,i,hs.own h.o3 h3,fun g e q=>f g q e,h.d1⟩
theorem Ow.put3 {R:Nat→Prop} {a j:Value} {D:MD} (h:Ow w base b a c j D) (hs:Sam w d R) (h0:∀ g,b.ownBlock=some g→¬ R g) (h1:∀ g,a.ownBlock=some g→¬ R g) (h2:∀ g,c.ownBlock=some g→¬ R g) {l:List (Nat×Nat)} (i:d.ownsRow base 271 2 t l.length (pV l)) (f:∀ g,t.ownBlock=some g→a.ownBlock≠some g):Ow d base b a c t ⟨D.a0,D.b0,D.a1,l⟩ :=
 ⟨hs.own h.o0 h0,hs.own h.o1 h1,hs.own h.o2 h2,i,h.d0,fun g e q=>f g q e⟩
def mtF (D:MD) (near:Nat) (f:Nat×Nat):MD:=if near=0 then ⟨D.a0,D.b0 ++ [f],D.a1,D.b1⟩ else ⟨D.a0,D.b0,D.a1,D.b1 ++ [f]⟩
def mtO (D:MD) (near i j:Nat):MD:=if near=0 then ⟨D.a0 ++ [i],D.b0,D.a1 ++ [j],D.b1⟩ else ⟨D.a0 ++ [j],D.b0,D.a1 ++ [i],D.b1⟩
def mt (D:MD) (kd:Int) (tv:Bool) (near i j:Nat):MD:=if kd=0 then mtO D near i j else mtF D near (fdT kd tv i j)
def MtTo (w w':World) (base:Nat) (s0 s1 s2 s3:Value) (D:MD) (e:Ending):Prop := ∃ t0 t1 t2 t3,e=.returned (.agg #[t0,t1,t2,t3])∧Ow w' base t0 t1 t2 t3 D∧Sam w w' (mtB s0 s1 s2 s3)∧(∀ k,mtB t0 t1 t2 t3 k→mtB s0 s1 s2 s3 k∨w.heap.size≤k)∧Below base w w'
theorem mt_fold1 {o p c:World} {l m n:Value} {D:MD} {f:Nat×Nat} (a:Ow w base l b m n D) (x:Sam w o (fun k=>b.ownBlock=some k)) (z:o.ownsRow base 271 2 t (D.b0.length+1) (pV D.b0 ++ [I (f.1:Int),I (f.2:Int)])) (i:t.ownBlock=b.ownBlock∨t.ownBlock=some H1) (s:Sam o p (fun k=>k=N6)) (u:Sam p c (fun k=>k=Nt)) (h6:w.heap.size≤N6) (B:w.heap.size≤Nt) (A:N6<H1) (v:Nt<H1) (y:Below base w c):MtTo w c base l b m n ⟨D.a0,D.b0 ++ [f],D.a1,D.b1⟩ (.returned (.agg #[l,t,m,n])):=by
 have r:Sam w c (fun k=>b.ownBlock=some k):=(x.then s fun k d e=>by omega).then u fun k d e=>by omega
 have low:∀ g,t.ownBlock=some g→g<w.heap.size∨g=H1:=fun g e=>by
  rcases i with h | h
  ·rw [h] at e;exact Or.inl (a.o1.lt g e).2
  ·rw [h] at e;simp at e;exact Or.inr e.symm
 have j:c.ownsRow base 271 2 t (D.b0 ++ [f]).length (pV (D.b0 ++ [f])):=by
  rw [List.length_append,pV_add];exact u.own (s.own z fun g e q=>by have:=low g e;omega) fun g e q=>by have:=low g e;omega
 refine ⟨_,_,_,_,rfl,Ow.put1 a r (Jn a.o0 a.o1 ψ) (Jn a.o2 a.o1 ψ) (fun g e q=>a.d1 g q e) j (fun g e q=>by
   rcases i with h | h
   ·rw [h] at e;exact a.d1 g e q
   ·rw [h] at e;have:=(a.o3.lt g q).2;simp at e;omega),r.mono fun k _ h=>Or.inr (Or.inl h),fun k d=>?_,y⟩
 rcases d with e | e | e | e
 ·exact Or.inl (Or.inl e)
 ·rcases i with h | h
  ·rw [h] at e;exact Or.inl (Or.inr (Or.inl e))
  ·rw [h] at e;simp at e;exact Or.inr γ
 ·exact Or.inl (Or.inr (Or.inr (Or.inl e)))
 ·exact Or.inl (Or.inr (Or.inr (Or.inr e)))
theorem mt_fold3 {o p c:World} {l m n:Value} {D:MD} {f:Nat×Nat} (a:Ow w base l m n b D) (x:Sam w o (fun k=>b.ownBlock=some k)) (z:o.ownsRow base 271 2 t (D.b1.length+1) (pV D.b1 ++ [I (f.1:Int),I (f.2:Int)])) (i:t.ownBlock=b.ownBlock∨t.ownBlock=some H1) (s:Sam o p (fun k=>k=N6)) (u:Sam p c (fun k=>k=Nt)) (h6:w.heap.size≤N6) (B:w.heap.size≤Nt) (A:N6<H1) (v:Nt<H1) (y:Below base w c):MtTo w c base l m n b ⟨D.a0,D.b0,D.a1,D.b1 ++ [f]⟩ (.returned (.agg #[l,m,n,t])):=by
 have r:Sam w c (fun k=>b.ownBlock=some k):=(x.then s fun k d e=>by omega).then u fun k d e=>by omega
 have low:∀ g,t.ownBlock=some g→g<w.heap.size∨g=H1:=fun g e=>by
  rcases i with h | h
  ·rw [h] at e;exact Or.inl (a.o3.lt g e).2
  ·rw [h] at e;simp at e;exact Or.inr e.symm
 have j:c.ownsRow base 271 2 t (D.b1 ++ [f]).length (pV (D.b1 ++ [f])):=by
  rw [List.length_append,pV_add];exact u.own (s.own z fun g e q=>by have:=low g e;omega) fun g e q=>by have:=low g e;omega
 refine ⟨_,_,_,_,rfl,Ow.put3 a r (Jn a.o0 a.o3 ψ) (fun g e q=>a.d1 g e q) (Jn a.o2 a.o3 ψ) j (fun g e q=>by
   rcases i with h | h
   ·rw [h] at e;exact a.d1 g q e
   ·rw [h] at e;have:=(a.o1.lt g q).2;simp at e;omega),r.mono fun k _ h=>Or.inr (Or.inr (Or.inr h)),fun k d=>?_,y⟩
 rcases d with e | e | e | e
 ·exact Or.inl (Or.inl e)
 ·exact Or.inl (Or.inr (Or.inl e))
 ·exact Or.inl (Or.inr (Or.inr (Or.inl e)))
 ·rcases i with h | h
  ·rw [h] at e;exact Or.inl (Or.inr (Or.inr (Or.inr e)))
  ·rw [h] at e;simp at e;exact Or.inr γ
def ABv (bh:Nat):Value:=.func (.func 187) #[] #[.pointer (Az bh)]
def Hg (w:World) (bh N:Nat) (h:Nat→Int):Prop := ∃ gh oh ch,At w bh 0 (.slice (Ad gh oh) N ch)∧∀ i,i<N→At w gh (oh+i) (I (h i))
theorem Hg.kept {a N:Nat} {h:Nat→Int} (k:Hg w a N h) (b:Bl w w'):Hg w' a N h:=by
 obtain ⟨d,e,c,h1,h2⟩:=k;exact ⟨d,e,c,Qa b h1,fun i hi=>Qa b (h2 i hi)⟩
theorem Gj (w:World) (c N a b:Nat) (h:Nat→Int) (k:Hg w c N h) (i:a<N) (j:b<N) (_p:N≤300) :
  Rt 187 #[I (a:Int),I (b:Int),.pointer (Az c)] w (.bool (decide (h b<h a))):=by
 obtain ⟨o,u,n,h1,h2⟩:=k;have d:=h2 a i;have g:=h2 b j;obtain ⟨x,e⟩:∃ x,x=h a:=⟨_,rfl⟩;obtain ⟨y,f⟩:∃ y,y=h b:=⟨_,rfl⟩;rw [← e] at d ⊢;rw [← f] at g ⊢;clear e f h2;have q:(a:Int)<(N:Int):=γ;have r:(b:Int)<(N:Int):=γ;have s:(0:Int)≤(a:Int):=γ;have t:(0:Int)≤(b:Int):=γ;have z1:=Bt h1;have z2:=Bt d;go_enter Tryz.func187,Tryz.ntmps187;go_upto_region 1 with fail
 obtain ⟨l,m⟩:=kcn w;refine wk ?_;repeat (go_big_quiet_step (fail))
 refine kq1 (fun v hq=>?_);clear l m;go_wp2;go_ret;exact ⟨rfl,hq⟩
def arB (h:Nat→Int) (p:Nat×Nat) (i:Nat):Bool:=decide (h p.1<h i) != decide (h p.2<h i)
theorem Kc (w:World) (f N lo hi i:Nat) (h:Nat→Int) (l:Hg w f N h) (h0:lo<N) (h1:hi<N) (h2:i<N) (k:N≤300) :
  Rt 197 #[.agg #[I (lo:Int),I (hi:Int)],I (i:Int),ABv f] w (.bool (arB h (lo,hi) i)):=by
 have CA:Hid (∀ (a b:Nat) (V:World),a<N→b<N→Bl w V→Rt 187 #[I (a:Int),I (b:Int),.pointer (Az f)] V (.bool (decide (h b<h a)))):=fun a b V p q g=>Gj V f N a b h (l.kept g) p q k;clear l;obtain ⟨b1,d⟩:∃ b,b=decide (h lo<h i):=⟨_,rfl⟩;obtain ⟨b2,e⟩:∃ b,b=decide (h hi<h i):=⟨_,rfl⟩;have m:Hid (∀ V:World,Bl w V→Rt 187 #[I (i:Int),I (lo:Int),.pointer (Az f)] V (.bool b1)):=fun V g=>by rw [d];exact CA.out i lo V h2 h0 g
 have n:Hid (∀ V:World,Bl w V→Rt 187 #[I (i:Int),I (hi:Int),.pointer (Az f)] V (.bool b2)):=fun V g=>by rw [e];exact CA.out i hi V h2 h1 g
 have o:Hid (arB h (lo,hi) i=(b1 != b2)):=by rw [d,e];rfl
 clear d e CA h0 h1 h2 k;unfold ABv;go_enter Tryz.func197,Tryz.ntmps197;go_upto_region 1 with fail
 refine Qi (fun j hW0=>?_);have c:Hid (Bl w j):=γ4;have t:At j w.heap.size 0 (I (lo:Int)):=ν;have u:At j w.heap.size 1 (I (hi:Int)):=ν;have z0:=Bt t;clear hW0;obtain ⟨r,s⟩:=kcn j;refine wk ?_;repeat (go_big_quiet_step ((first | (go_at_call 187;(with_reducible exact Qf (m.out _ (Qc c.out (Kin.h _))))) | (go_at_call 187;(with_reducible exact Qf (n.out _ (Qc c.out (Kin.h _))))) | fail)))
 refine kq1 (fun v hq=>?_);clear r s;go_wp2;go_ret;exact ⟨Qv (by rw [o.out];cases b1 <;> cases b2 <;> rfl),Qc c.out hq⟩
theorem misCl_any (w:World) (c f N lo hi:Nat) (h:Nat→Int) (k:Hg w c N h) (g:At w f 0 (ABv c)) (h0:lo<N) (h1:hi<N) (i:N≤300) :
  Rt 199 #[.agg #[I (lo:Int),I (hi:Int)],.pointer (Az f)] w (.bool (decide (h hi<h lo))):=by
 have d:=Hd (fun (V:World) hV=>Gj V c N lo hi h (k.kept hV) h0 h1 i);obtain ⟨b1,a⟩:∃ b,b=decide (h hi<h lo):=⟨_,rfl⟩;rw [← a] at d ⊢;have m:=Bt g;clear a k h0 h1 i;unfold ABv at g;go_enter Tryz.func199,Tryz.ntmps199;go_wp2_with (go_at_call 187;(with_reducible refine (d.out _ Θ).mono ?_);rintro e w1 ⟨rfl,j⟩;have l:=Hd (Qc β1 j);clear j)
 go_ret;exact ⟨rfl,l.out⟩
theorem Qp {P:Program} {c:Array Oper} {o:Oper} {a:Act} {K:Act→World→Prop} {E:Prop} {R:Ending→World→Prop} (d:o.guard=none)
  (f:FuncId) (args:Array Value) (b:(execOp a.eval o).run P w=.ok (.enter f args) w) (i:Calls P f args w R) (h:∀ e w',R e w'→∃ v,e=.returned v∧K (a.put o.dst v) w') :
  if Region.wanted o (yielded c a.tmps)=true then Oper.wp P o a w K Q else E:=by
 have l:Region.wanted o (yielded c a.tmps)=true:=by simp [Region.wanted,d]
 rw [if_pos l];unfold Oper.wp;rw [b,Oper.upon_enter];refine i.mono fun e g j=>?_;obtain ⟨v,rfl,k⟩:=h e g j;exact k
theorem levelOf_any (W H:Int) (a c mp K:Option Addr) (zl ca n cc mn mc z X m q:Nat) (S:List (T3×List T3)) (w:World) (x y k:Int) (Q:SRowG w K S) (F:z=S.length) (hb:z≤300) (C:∀ s∈S,s.2.length≤17592186044416)
  (hm:m<S.length) (hq:q<S[m].2.length) (R:S[m].2[q]=(x,y,k)) (E:∀ m' (h:m'<S.length),m'<m→(x,y,k) ∉ S[m'].2) (D:S[m].2.Nodup) :
  Rt 132 #[.agg #[I W,I H,.slice a zl ca,.slice c n cc,.slice mp mn mc,.slice K z X],.agg #[I x,I y,I k]] w (I (q:Int)):=by
 have A:Hid (SRowG w K S∧z=S.length∧(∀ s∈S,s.2.length≤17592186044416)∧(∀ m' (h:m'<S.length),m'<m→(x,y,k) ∉ S[m'].2)∧plc S[m].2 (x,y,k)=(q:Int)):=⟨Q,F,C,E,Gv hq R fun j hj hl e=>by
  have:=List.pairwise_iff_getElem.1 D j q hj hq hl;exact this (e.trans R.symm)⟩
 have a2:m<z:=γ;clear Q F C E D;go_enter Tryz.func132,Tryz.ntmps132;go_upto_region 1 with fail
 refine Qi (fun J hW0=>?_)
 have HW:Hid (Bl w J):=by
  rw [hW0];exact Qb β1
 have M:Hid (At J w.heap.size 5 (.slice K z X)∧Tr J (w.heap.size+1) x y k):=by
  rw [hW0];exact ⟨δ,γ8⟩
 obtain ⟨B,d⟩:∃ B,B=w.heap.size:=⟨_,rfl⟩;rw [← d] at M ⊢;clear hW0 d;go_wp2;go_loopg [5] (m+1) (fun gk s5 wx=>∃ i:Nat,i≤m∧gk=m+1 - i∧s5=I (i:Int)∧Bl J wx)
 case atStart=>exact ⟨0,γ,rfl,rfl,Qe _⟩
 case round =>
  obtain ⟨i,hi,rfl,rfl,d⟩:=hrel;have L:=H2 d (Qc HW.out d);have x5:=Qa d M.out.1;obtain ⟨t0,Y,Z⟩:=M.out.2;replace t0:=Qa d t0;replace Y:=Qa d Y;replace Z:=Qa d Z;have zb:=Bt x5;have ze:=Bt t0;clear d;have i1:(i:Int)<(z:Int):=γ;have i0:(0:Int)≤(i:Int):=γ;have l:i<S.length:=by rw [← A.out.2.1];omega
  obtain ⟨g,o,U,sd,e1,n0,n1,n2,c3,n3,n4⟩:=(A.out.1.kept L.out.2) i l;subst e1;have zg:=Bt c3;obtain ⟨p,hp⟩:∃ p,p=plc S[i].2 (x,y,k):=⟨_,rfl⟩
  have f:Hid (∀ V:World,Bl wr V→Rt 53 #[.slice U S[i].2.length sd,.agg #[I x,I y,I k]] V (I p)):=fun V hV=>by
   rw [hp];exact placeG_any U sd S[i].2 x y k V (n4.kept hV) (A.out.2.2.1 _ (Lm l))
  obtain ⟨T,r⟩:∃ T,T=S[i].2.length:=⟨_,rfl⟩;rw [← r] at f c3;by_cases e:i=m
  ·subst e;have t:p=(q:Int):=by rw [hp];exact A.out.2.2.2.2
   subst t;have q0:(q:Int) ≥ 0:=γ;clear n0 n1 n2 n3 n4 r hp;obtain ⟨N,O⟩:=kcn wr;go_upto_region 4 with fail
   refine wk ?_;repeat (go_big_quiet_step ((go_at_call 53;exact Qf (f.out _ (Kin.h _)))))
   refine wpQuiet_nil ?_;intro P v;obtain ⟨G,b⟩:=v;have u:Bl wr P:=b ▸ G.h;clear b G N O;go_wp2;go_ret;exact ⟨rfl,Qc L.out.2 u⟩
  ·have t:p=-1:=by
    rw [hp];unfold plc;rw [if_neg (A.out.2.2.2.1 i l γ)]
   subst t;clear n0 n1 n2 n3 n4 r hp;obtain ⟨N,O⟩:=kcn wr;go_upto_region 4 with fail
   refine wk ?_;repeat (go_big_quiet_step ((go_at_call 53;exact Qf (f.out _ (Kin.h _)))))
   refine wpQuiet_nil ?_;intro P v;obtain ⟨G,b⟩:=v;have u:Bl wr P:=b ▸ G.h;clear b G N O;go_wp2;go_roundg (m+1 - (i+1))
   case measure=>omega
   case rel=>exact ⟨i+1,γ,rfl,σ,Qc L.out.1 u⟩
def hv (h:Nat→Int) (n:Nat):List Value:=(List.range n).map fun i=>I (h i)
theorem hv_succ (h:Nat→Int) (n:Nat):hv h (n+1)=hv h n ++ [I (h n)]:=by simp [hv,List.range_succ]
theorem levels_any (W H:Int) (a c G N:Option Addr) (v s n t F E M J j:Nat) (w:World) (L:List T3) (h:Nat→Int)
  (CT:Hid (∀ V:World,Bl w V→Cl 51 #[.agg #[I W,I H,.slice a v s,.slice c n t]] V fun e w'=>∃ a9 c9,e=.returned (.slice a9 j c9)∧TRow w' a9 L∧Bl V w'))
  (CL:Hid (∀ (V:World) (i:Nat) (x y k:Int),Bl w V→(hi:i<L.length)→L[i]=(x,y,k)→Rt 132 #[.agg #[I W,I H,.slice a v s,.slice c n t,.slice G F E,.slice N M J],.agg #[I x,I y,I k]] V (I (h i))))
  (a8:j=L.length) (hL:j≤300) :
  Cl 56 #[.agg #[I W,I H,.slice a v s,.slice c n t,.slice G F E,.slice N M J]] w fun e w'=>∃ u,e=.returned u∧w'.ownsRow w.heap.size 3 1 u j (hv h j)∧Bl w w':=by
 obtain ⟨i3,hi,aa,ab,ac⟩:=info_parts inf3;have HI:=H4 hi aa ab ac;have ae:=Hd a8;clear hi aa ab ac a8;go_enter Tryz.func56,Tryz.ntmps56;go_upto_region 2 with (go_at_call 51;refine (CT.out _ Θ).mono ?_;rintro e w1 ⟨a9,af,rfl,a2,C⟩;have g:Hid (TRow w1 a9 L∧Bl w w1∧(At w1 w.heap.size 0 (I W)∧At w1 w.heap.size 1 (I H)∧At w1 w.heap.size 2 (.slice a v s)∧At w1 w.heap.size 3 (.slice c n t)∧At w1 w.heap.size 4 (.slice G F E)∧At w1 w.heap.size 5 (.slice N M J))):=⟨a2,Qc β1 C,Qa C δ,Qa C δ,Qa C δ,Qa C δ,Qa C δ,Qa C δ⟩;clear a2 C)
 obtain ⟨T,hW0⟩:∃ T,T=w1:=⟨_,rfl⟩;have B:=Hd hW0;clear hW0;go_wp2;go_loopg [4,5] j (fun gk s4 s5 l=>∃ (i:Nat) (u:Value),i≤j∧gk=j - i∧u=s4∧s5=I (i:Int)∧l.ownsRow T.heap.size 3 1 u i (hv h i)∧Bl w1 l)
 case atStart=>exact ⟨0,_,γ,rfl,rfl,rfl,by simpa [hv] using World.ownsRow_nil _ _ _ _,Qe _⟩
 case round =>
  obtain ⟨i,u,hi,rfl,rfl,rfl,hO,hB⟩:=hrel;have r:=H2 hO hB;clear hO hB;by_cases h1:i<j
  ·have i1:(i:Int)<(j:Int):=γ;have i0:(0:Int)≤(i:Int):=γ;have D:i<L.length:=by rw [← ae.out];exact h1
   obtain ⟨p,ea,t0,t1,t2⟩:=(g.out.1.kept r.out.2) i D;subst ea;obtain ⟨x,y,k,ht⟩:∃ x y kk,L[i]=(x,y,kk):=⟨_,_,_,rfl⟩;rw [ht] at t0 t1 t2;dsimp only at t0 t1 t2;obtain ⟨hi,R⟩:∃ z,z=h i:=⟨_,rfl⟩;have ad:=Hd R
   have X:Hid (∀ V:World,Bl wr V→Rt 132 #[.agg #[I W,I H,.slice a v s,.slice c n t,.slice G F E,.slice N M J],.agg #[I x,I y,I k]] V (I hi)):=fun V hV=>by
    rw [R];exact CL.out V i x y k (Qc g.out.2.1 (Qc r.out.2 hV)) D ht
   have A:Hid (∀ l:World,Bl wr l→(At l w.heap.size 0 (I W)∧At l w.heap.size 1 (I H)∧At l w.heap.size 2 (.slice a v s)∧At l w.heap.size 3 (.slice c n t)∧At l w.heap.size 4 (.slice G F E)∧At l w.heap.size 5 (.slice N M J)∧At l p (i*3) (I x)∧At l p (i*3+1) (I y)∧At l p (i*3+2) (I k))):=fun l hx=>by
    obtain ⟨d0,d1,d2,d3,d4,d5⟩:=g.out.2.2;have U:=Qc r.out.2 hx;exact ⟨Qa U d0,Qa U d1,Qa U d2,Qa U d3,Qa U d4,Qa U d5,Qa hx t0,Qa hx t1,Qa hx t2⟩
   have ah:p<w1.heap.size:=by
    obtain ⟨g9,e9,s0,_⟩:=g.out.1 i D;simp only [Option.some.injEq,Addr.mk.injEq,and_true] at e9;subst e9;exact bk s0
   have ai:=Bt g.out.2.2.1
   have f:Hid (∀ b,b<w1.heap.size→some b≠u.ownBlock):=fun b C e=>by
    have h9:=r.out.1.lt b e.symm;rw [B.out] at h9;omega
   clear R ht t0 t1 t2 D;go_upto_region 6 with fail
   refine wp_region_held_drew (S:=fun w'=>At w' w.heap.size 0 (I W)∧At w' w.heap.size 1 (I H)∧At w' w.heap.size 2 (.slice a v s)∧At w' w.heap.size 3 (.slice c n t)∧At w' w.heap.size 4 (.slice G F E)∧At w' w.heap.size 5 (.slice N M J)∧At w' p (i*3) (I x)∧At w' p (i*3+1) (I y)∧At w' p (i*3+2) (I k)) η (A.out _ (Qg (Qe _))) (fun ag=>?_);refine Tk 0 u ?_;refine Tk 1 (.agg #[I W,I H,.slice a v s,.slice c n t,.slice G F E,.slice N M J]) ?_;refine Tk 2 (.slice (Az p) j af) ?_;refine Tk 3 (I (i:Int)) ?_;refine Tk 4 (.pointer (Ad p (i*3))) ?_;refine Tk 5 (.agg #[I x,I y,I k]) ?_;refine Rd 6 rfl (fun K Q=>?_);refine Qp Ω 132 #[.agg #[I W,I H,.slice a v s,.slice c n t,.slice G F E,.slice N M J],.agg #[I x,I y,I k]] η (X.out _ (Qg (Qe _))) ?_;rintro e w8 ⟨rfl,a6⟩;refine ⟨_,rfl, ?_⟩;have m:Hid (Bl wr w8):=Qc (Qg (Qe _)) a6;clear a6;refine Q.out _ _ (A.out _ m.out) (fun Z=>?_);clear Q K;try simp only [Ap]
   refine Rd 7 rfl (fun K Q=>?_);go_simp;refine Q.out _ _ (A.out _ (Qb m.out)) (fun Z=>?_);clear Q K;try simp only [Ap]
   refine Rd 8 rfl (fun K Q=>?_);obtain ⟨v',d,hr,ho,hg,_,_⟩:=run_append_own_at (P:=Tryz.prog) (w8.alloc (.cells #[I hi] 3)) T.heap.size 22 22 3 i3 (I 0) 1 8 Tryz.underlying22 HI.out.1 HI.out.2.1 HI.out.2.2.1 HI.out.2.2.2 rfl ψ u i (hv h i) (Qj r.out.1 (Qb m.out)) ⟨w8.heap.size,0,none⟩ 1 1 [I hi] rfl (Yc _ _ _) (by intro q hq;simp at hq;subst hq;rfl) Ξ γ (by have h1:=r.out.2.size;have h2:=m.out.size;have h3:T.heap.size=w1.heap.size:=(by rw [B.out]);simp;omega);rw [if_pos Ω];refine Je (.tmp 15) (.tmp 22) 22 rfl _ _ v' d rfl rfl hr ?_
   have O:Hid (Bl w1 d∧d.ownsRow T.heap.size 3 1 v' (i+1) (hv h (i+1))):=by
    have a7:Bl w1 (w8.alloc (.cells #[I hi] 3)):=Qb (Qc r.out.2 m.out);refine ⟨a7.grown hg a7.size (fun q hq=>by have:=Qw r.out.1 q hq;rw [B.out] at this;exact this), ?_⟩;rw [hv_succ,← ad.out];exact ho
   have Y:Hid ((At d w.heap.size 0 (I W)∧At d w.heap.size 1 (I H)∧At d w.heap.size 2 (.slice a v s)∧At d w.heap.size 3 (.slice c n t)∧At d w.heap.size 4 (.slice G F E)∧At d w.heap.size 5 (.slice N M J)∧At d p (i*3) (I x)∧At d p (i*3+1) (I y)∧At d p (i*3+2) (I k))):=by
    obtain ⟨d0,d1,d2,d3,d4,d5,d6,d7,d8⟩:=A.out _ (Qb (o:=.cells #[I hi] 3) m.out);exact ⟨hg.cell d0 (f.out _ θ),hg.cell d1 (f.out _ θ),hg.cell d2 (f.out _ θ),hg.cell d3 (f.out _ θ),hg.cell d4 (f.out _ θ),hg.cell d5 (f.out _ θ),hg.cell d6 (f.out _ θ),hg.cell d7 (f.out _ θ),hg.cell d8 (f.out _ θ)⟩
   clear hr ho hg;refine Q.out _ _ Y.out (fun Z=>?_);clear Q K;try simp only [Ap]
   refine Tk 9 v' ?_;refine wpAnyH_done η ?_ _;go_wp2;go_roundg (j - (i+1))
   case measure=>omega
   case rel=>exact ⟨i+1,v',γ,rfl,rfl,σ,O.out.2,O.out.1⟩
  ·have i1:¬ (i:Int)<(j:Int):=γ;obtain rfl:i=j:=γ;go_wp2;go_ret;exact ⟨u,rfl,Vn r.out.1 (by rw [B.out];exact g.out.2.1.size),Qc g.out.2.1 r.out.2⟩
def FRow (w:World) (a:Option Addr) (l:List (Nat×Nat)):Prop := ∀ i (h:i<l.length),∃ g,a=Az g∧At w g (i*2) (I (l[i].1:Int))∧At w g (i*2+1) (I (l[i].2:Int))
def IRow (w:World) (a:Option Addr) (l:List Nat):Prop := ∀ i (h:i<l.length),∃ g,a=Az g∧At w g i (I (l[i]:Int))
theorem FRow.kept {l:List (Nat×Nat)} (h:FRow w a l) (b:Bl w w'):FRow w' a l:=fun i hi=>by
 obtain ⟨g,e,h0,h1⟩:=h i hi;exact ⟨g,e,Qa b h0,Qa b h1⟩
theorem IRow.kept {l:List Nat} (h:IRow w a l) (b:Bl w w'):IRow w' a l:=fun i hi=>by
 obtain ⟨g,e,h0⟩:=h i hi;exact ⟨g,e,Qa b h0⟩
theorem FRow.take {l:List (Nat×Nat)} (h:FRow w a l) (n:Nat):FRow w a (l.take n):=fun i hi=>by
 rw [List.length_take] at hi;obtain ⟨g,e,h0,h1⟩:=h i γ;simp only [List.getElem_take];exact ⟨g,e,h0,h1⟩
structure AnyL {α:Type} (l:List α) (pr : α→Bool):Prop where
 out:l.any pr=true
theorem add0M (g j:Nat):(⟨g,0,none⟩:Addr).add j=⟨g,j,none⟩:=by
 cases j with
 | zero=>rfl
 | succ j=>simp [Addr.add]
theorem pV_at:∀ (l:List (Nat×Nat)) (i:Nat) (h:i<l.length),(pV l)[i*2]?=some (I (l[i].1:Int))∧(pV l)[i*2+1]?=some (I (l[i].2:Int))
 | p :: l,0,_=>by simp [pV]
 | p :: l,i+1,h=>by
  have:=pV_at l i (by simpa using h);have e:pV (p :: l)=I (p.1:Int) :: I (p.2:Int) :: pV l:=by simp [pV]
  rw [e,show (i+1)*2=i*2+1+1 by omega];simpa using this
theorem own_frow {c:Nat} {l:List (Nat×Nat)} (h:w.ownsRow base 271 2 (.slice a l.length c) l.length (pV l)):FRow w a l:=fun i hi=>by
 rcases h.2 with ⟨_,h0⟩ | ⟨g,d,f,hv,_,j,h1,h2,h3,h4⟩
 ·omega
 ·simp only [Value.slice.injEq] at hv;have hg:(Value.slice a l.length c).ownBlock=some g:=by rw [hv.1];rfl
  have b:=h.cells hg;have e:=pV_at l i hi;refine ⟨g,hv.1, ?_, ?_⟩
  ·have:=b _ _ e.1;rw [add0M] at this;exact this
  ·have:=b _ _ e.2;rw [add0M] at this;exact this
theorem own_irow {c:Nat} {l:List Nat} (h:w.ownsRow base 3 1 (.slice a l.length c) l.length (nV l)):IRow w a l:=fun i hi=>by
 rcases h.2 with ⟨_,h0⟩ | ⟨g,b,d,hv,_,j,h1,h2,h3,h4⟩
 ·omega
 ·simp only [Value.slice.injEq] at hv;have hg:(Value.slice a l.length c).ownBlock=some g:=by rw [hv.1];rfl
  have f:=h.cells hg;have e:(nV l)[i]?=some (I (l[i]:Int)):=by simp [nV,hi]
  refine ⟨g,hv.1, ?_⟩;have:=f _ _ e;rw [add0M] at this;exact this
theorem indexMis_any (w:World) (a:Option Addr) (m c k0:Nat) (l:List (Nat×Nat)) (o:(Nat×Nat)→Bool) (x:FRow w a l) (y:m=l.length) (G:m≤100000000)
  (z:Hid (∀ (V:World) (p:(Nat×Nat)),Bl w V→p∈l→Rt 199 #[.agg #[I (p.1:Int),I (p.2:Int)],.pointer (Az k0)] V (.bool (o p)))) :
  Cl 256 #[.slice a m c,.func (.func 199) #[] #[.pointer (Az k0)]] w fun e w'=>(∃ n:Int,e=.returned (I n)∧Hid (0≤n↔AnyL l o))∧Bl w w':=by
 have s:=H2 x y;clear x y;go_enter Tryz.func256,Tryz.ntmps256;go_wp2;go_loopg [8] m (fun A E F=>∃ i:Nat,i≤m∧A=m - i∧E=I (i:Int)∧Hid (∀ j (h:j<l.length),j<i→o l[j]=false)∧Bl w F)
 case atStart=>exact ⟨0,γ,rfl,rfl,fun j h h2=>by omega,Qe _⟩
 case round =>
  obtain ⟨i,hi,rfl,rfl,q,v⟩:=hrel;have k:=Hd v;clear v;by_cases h1:i<m
  ·have D:(i:Int)<(m:Int):=γ;have H:(0:Int)≤(i:Int):=γ;have f:i<l.length:=s.out.2 ▸ h1;obtain ⟨g,rfl,c0,c1⟩:=(s.out.1.kept k.out) i f;obtain ⟨lo,hi,hp⟩:∃ lo hi,l[i]=(lo,hi):=⟨_,_,rfl⟩;rw [hp] at c0 c1;dsimp only at c0 c1;have r:Hid (∀ V:World,Bl w V→Rt 199 #[.agg #[I (lo:Int),I (hi:Int)],.pointer (Az k0)] V (.bool (o (lo,hi)))):=fun V B=>z.out V (lo,hi) B (hp ▸ Lm f);have u:=Hd hp;clear hp
   cases hb2:o (lo,hi)
   ·rw [hb2] at r;go_wp2_with (go_at_call 199;(with_reducible refine (r.out _ k.out).mono ?_);rintro e w1 ⟨rfl,b⟩;have d:=Hd (Qc k.out b);clear b)
    go_roundg (m - (i+1))
    case measure=>omega
    case rel =>
     refine ⟨i+1,γ,rfl,σ,fun j t C=>?_,d.out⟩;by_cases e:j=i
     ·subst e;rw [u.out];exact hb2
     ·exact q.out j t γ
   ·rw [hb2] at r;go_wp2_with (go_at_call 199;(with_reducible refine (r.out _ k.out).mono ?_);rintro e w1 ⟨rfl,b⟩;have d:=Hd (Qc k.out b);clear b)
    try rw [Exit.noGoto_ret]
    go_ret;exact ⟨⟨_,rfl,⟨fun _=>AnyL.mk (List.any_eq_true.2 ⟨_,Lm f,by rw [u.out];exact hb2⟩),fun _=>by omega⟩⟩,d.out⟩
  ·have D:¬ (i:Int)<(m:Int):=γ;go_wp2;go_ret;refine ⟨⟨_,rfl,⟨fun h=>by omega,fun h=>?_⟩⟩,k.out⟩;obtain ⟨p,hp,hq⟩:=List.any_eq_true.1 (show l.any o=true from h.out);obtain ⟨j,t,rfl⟩:=List.mem_iff_getElem.1 hp;have:=q.out j t (by have:=s.out.2;omega);rw [this] at hq
   cases hq
theorem Qbe (w:World) (a:Option Addr) (m c k0:Nat) (l:List (Nat×Nat)) (d:(Nat×Nat)→Bool) (j:FRow w a l) (k:m=l.length) (i:m≤100000000)
  (g:Hid (∀ (V:World) (p:(Nat×Nat)),Bl w V→p∈l→Rt 199 #[.agg #[I (p.1:Int),I (p.2:Int)],.pointer (Az k0)] V (.bool (d p)))) :
  Rt 194 #[.slice a m c,.func (.func 199) #[] #[.pointer (Az k0)]] w (.bool (l.any d)):=by
 have q:=Hd (indexMis_any w a m c k0 l d j k i g);clear g j k i;go_enter Tryz.func194,Tryz.ntmps194;go_wp2_with (go_at_call 256;(with_reducible refine q.out.mono ?_);rintro e w1 ⟨⟨n,rfl,o⟩,b⟩;have f:=Hd b;clear b)
 go_ret;refine ⟨Qv ?_,f.out⟩;by_cases h:0≤n
 ·rw [decide_eq_true h];exact (o.out.1 h).out.symm
 ·rw [decide_eq_false h]
  cases hq:l.any d
  ·rfl
  ·exact absurd (o.out.2 (AnyL.mk hq)) h
theorem indexPie_any (w:World) (a:Option Addr) (m c k0 k1:Nat) (l:List (Nat×Nat)) (o:(Nat×Nat)→Bool) (x:FRow w a l) (y:m=l.length) (G:m≤100000000)
  (z:Hid (∀ (V:World) (p:(Nat×Nat)),Bl w V→p∈l→Rt 195 #[.agg #[I (p.1:Int),I (p.2:Int)],.pointer (Az k0),.pointer (Az k1)] V (.bool (o p)))) :
  Cl 256 #[.slice a m c,.func (.func 195) #[] #[.pointer (Az k0),.pointer (Az k1)]] w fun e w'=>(∃ n:Int,e=.returned (I n)∧Hid (0≤n↔AnyL l o))∧Bl w w':=by
 have s:=H2 x y;clear x y;go_enter Tryz.func256,Tryz.ntmps256;go_wp2;go_loopg [8] m (fun A E F=>∃ i:Nat,i≤m∧A=m - i∧E=I (i:Int)∧Hid (∀ j (h:j<l.length),j<i→o l[j]=false)∧Bl w F)
 case atStart=>exact ⟨0,γ,rfl,rfl,fun j h h2=>by omega,Qe _⟩
 case round =>
  obtain ⟨i,hi,rfl,rfl,q,v⟩:=hrel;have k:=Hd v;clear v;by_cases h1:i<m
  ·have D:(i:Int)<(m:Int):=γ;have H:(0:Int)≤(i:Int):=γ;have f:i<l.length:=s.out.2 ▸ h1;obtain ⟨g,rfl,c0,c1⟩:=(s.out.1.kept k.out) i f;obtain ⟨lo,hi,hp⟩:∃ lo hi,l[i]=(lo,hi):=⟨_,_,rfl⟩;rw [hp] at c0 c1;dsimp only at c0 c1;have r:Hid (∀ V:World,Bl w V→Rt 195 #[.agg #[I (lo:Int),I (hi:Int)],.pointer (Az k0),.pointer (Az k1)] V (.bool (o (lo,hi)))):=fun V B=>z.out V (lo,hi) B (hp ▸ Lm f);have u:=Hd hp;clear hp
   cases hb2:o (lo,hi)
   ·rw [hb2] at r;go_wp2_with (go_at_call 195;(with_reducible refine (r.out _ k.out).mono ?_);rintro e w1 ⟨rfl,b⟩;have d:=Hd (Qc k.out b);clear b)
    go_roundg (m - (i+1))
    case measure=>omega
    case rel =>
     refine ⟨i+1,γ,rfl,σ,fun j t C=>?_,d.out⟩;by_cases e:j=i
     ·subst e;rw [u.out];exact hb2
     ·exact q.out j t γ
   ·rw [hb2] at r;go_wp2_with (go_at_call 195;(with_reducible refine (r.out _ k.out).mono ?_);rintro e w1 ⟨rfl,b⟩;have d:=Hd (Qc k.out b);clear b)
    try rw [Exit.noGoto_ret]
    go_ret;exact ⟨⟨_,rfl,⟨fun _=>AnyL.mk (List.any_eq_true.2 ⟨_,Lm f,by rw [u.out];exact hb2⟩),fun _=>by omega⟩⟩,d.out⟩
  ·have D:¬ (i:Int)<(m:Int):=γ;go_wp2;go_ret;refine ⟨⟨_,rfl,⟨fun h=>by omega,fun h=>?_⟩⟩,k.out⟩;obtain ⟨p,hp,hq⟩:=List.any_eq_true.1 (show l.any o=true from h.out);obtain ⟨j,t,rfl⟩:=List.mem_iff_getElem.1 hp;have:=q.out j t (by have:=s.out.2;omega);rw [this] at hq
   cases hq
theorem Qbd (w:World) (a:Option Addr) (m c k0 k1:Nat) (l:List (Nat×Nat)) (d:(Nat×Nat)→Bool) (j:FRow w a l) (k:m=l.length) (i:m≤100000000)
  (g:Hid (∀ (V:World) (p:(Nat×Nat)),Bl w V→p∈l→Rt 195 #[.agg #[I (p.1:Int),I (p.2:Int)],.pointer (Az k0),.pointer (Az k1)] V (.bool (d p)))) :
  Rt 194 #[.slice a m c,.func (.func 195) #[] #[.pointer (Az k0),.pointer (Az k1)]] w (.bool (l.any d)):=by
 have q:=Hd (indexPie_any w a m c k0 k1 l d j k i g);clear g j k i;go_enter Tryz.func194,Tryz.ntmps194;go_wp2_with (go_at_call 256;(with_reducible refine q.out.mono ?_);rintro e w1 ⟨⟨n,rfl,o⟩,b⟩;have f:=Hd b;clear b)
 go_ret;refine ⟨Qv ?_,f.out⟩;by_cases h:0≤n
 ·rw [decide_eq_true h];exact (o.out.1 h).out.symm
 ·rw [decide_eq_false h]
  cases hq:l.any d
  ·rfl
  ·exact absurd (o.out.2 (AnyL.mk hq)) h
theorem indexTan_any (w:World) (a:Option Addr) (m c k0 k1:Nat) (l:List (Nat×Nat)) (o:(Nat×Nat)→Bool) (x:FRow w a l) (y:m=l.length) (G:m≤100000000)
  (z:Hid (∀ (V:World) (p:(Nat×Nat)),Bl w V→p∈l→Rt 198 #[.agg #[I (p.1:Int),I (p.2:Int)],.pointer (Az k0),.pointer (Az k1)] V (.bool (o p)))) :
  Cl 256 #[.slice a m c,.func (.func 198) #[] #[.pointer (Az k0),.pointer (Az k1)]] w fun e w'=>(∃ n:Int,e=.returned (I n)∧Hid (0≤n↔AnyL l o))∧Bl w w':=by
 have s:=H2 x y;clear x y;go_enter Tryz.func256,Tryz.ntmps256;go_wp2;go_loopg [8] m (fun A E F=>∃ i:Nat,i≤m∧A=m - i∧E=I (i:Int)∧Hid (∀ j (h:j<l.length),j<i→o l[j]=false)∧Bl w F)
 case atStart=>exact ⟨0,γ,rfl,rfl,fun j h h2=>by omega,Qe _⟩
 case round =>
  obtain ⟨i,hi,rfl,rfl,q,v⟩:=hrel;have k:=Hd v;clear v;by_cases h1:i<m
  ·have D:(i:Int)<(m:Int):=γ;have H:(0:Int)≤(i:Int):=γ;have f:i<l.length:=s.out.2 ▸ h1;obtain ⟨g,rfl,c0,c1⟩:=(s.out.1.kept k.out) i f;obtain ⟨lo,hi,hp⟩:∃ lo hi,l[i]=(lo,hi):=⟨_,_,rfl⟩;rw [hp] at c0 c1;dsimp only at c0 c1;have r:Hid (∀ V:World,Bl w V→Rt 198 #[.agg #[I (lo:Int),I (hi:Int)],.pointer (Az k0),.pointer (Az k1)] V (.bool (o (lo,hi)))):=fun V B=>z.out V (lo,hi) B (hp ▸ Lm f);have u:=Hd hp;clear hp
   cases hb2:o (lo,hi)
   ·rw [hb2] at r;go_wp2_with (go_at_call 198;(with_reducible refine (r.out _ k.out).mono ?_);rintro e w1 ⟨rfl,b⟩;have d:=Hd (Qc k.out b);clear b)
    go_roundg (m - (i+1))
    case measure=>omega
    case rel =>
     refine ⟨i+1,γ,rfl,σ,fun j t C=>?_,d.out⟩;by_cases e:j=i
     ·subst e;rw [u.out];exact hb2
     ·exact q.out j t γ
   ·rw [hb2] at r;go_wp2_with (go_at_call 198;(with_reducible refine (r.out _ k.out).mono ?_);rintro e w1 ⟨rfl,b⟩;have d:=Hd (Qc k.out b);clear b)
    try rw [Exit.noGoto_ret]
    go_ret;exact ⟨⟨_,rfl,⟨fun _=>AnyL.mk (List.any_eq_true.2 ⟨_,Lm f,by rw [u.out];exact hb2⟩),fun _=>by omega⟩⟩,d.out⟩
  ·have D:¬ (i:Int)<(m:Int):=γ;go_wp2;go_ret;refine ⟨⟨_,rfl,⟨fun h=>by omega,fun h=>?_⟩⟩,k.out⟩;obtain ⟨p,hp,hq⟩:=List.any_eq_true.1 (show l.any o=true from h.out);obtain ⟨j,t,rfl⟩:=List.mem_iff_getElem.1 hp;have:=q.out j t (by have:=s.out.2;omega);rw [this] at hq
   cases hq
theorem Qbc (w:World) (a:Option Addr) (m c k0 k1:Nat) (l:List (Nat×Nat)) (d:(Nat×Nat)→Bool) (j:FRow w a l) (k:m=l.length) (i:m≤100000000)
  (g:Hid (∀ (V:World) (p:(Nat×Nat)),Bl w V→p∈l→Rt 198 #[.agg #[I (p.1:Int),I (p.2:Int)],.pointer (Az k0),.pointer (Az k1)] V (.bool (d p)))) :
  Rt 194 #[.slice a m c,.func (.func 198) #[] #[.pointer (Az k0),.pointer (Az k1)]] w (.bool (l.any d)):=by
 have q:=Hd (indexTan_any w a m c k0 k1 l d j k i g);clear g j k i;go_enter Tryz.func194,Tryz.ntmps194;go_wp2_with (go_at_call 256;(with_reducible refine q.out.mono ?_);rintro e w1 ⟨⟨n,rfl,o⟩,b⟩;have f:=Hd b;clear b)
 go_ret;refine ⟨Qv ?_,f.out⟩;by_cases h:0≤n
 ·rw [decide_eq_true h];exact (o.out.1 h).out.symm
 ·rw [decide_eq_false h]
  cases hq:l.any d
  ·rfl
  ·exact absurd (o.out.2 (AnyL.mk hq)) h
theorem indexInt_any (w:World) (a:Option Addr) (m c k0 k1:Nat) (l:List Nat) (o:Nat→Bool) (x:IRow w a l) (y:m=l.length) (G:m≤100000000)
  (z:Hid (∀ (V:World) (p:Nat),Bl w V→p∈l→Rt 196 #[I (p:Int),.pointer (Az k0),.pointer (Az k1)] V (.bool (o p)))) :
  Cl 246 #[.slice a m c,.func (.func 196) #[] #[.pointer (Az k0),.pointer (Az k1)]] w fun e w'=>(∃ n:Int,e=.returned (I n)∧Hid (0≤n↔AnyL l o))∧Bl w w':=by
 have s:=H2 x y;clear x y;go_enter Tryz.func246,Tryz.ntmps246;go_wp2;go_loopg [8] m (fun A E F=>∃ i:Nat,i≤m∧A=m - i∧E=I (i:Int)∧Hid (∀ j (h:j<l.length),j<i→o l[j]=false)∧Bl w F)
 case atStart=>exact ⟨0,γ,rfl,rfl,fun j h h2=>by omega,Qe _⟩
 case round =>
  obtain ⟨i,hi,rfl,rfl,q,v⟩:=hrel;have k:=Hd v;clear v;by_cases h1:i<m
  ·have D:(i:Int)<(m:Int):=γ;have H:(0:Int)≤(i:Int):=γ;have f:i<l.length:=s.out.2 ▸ h1;obtain ⟨g,rfl,c0⟩:=(s.out.1.kept k.out) i f;obtain ⟨lo,hp⟩:∃ lo,l[i]=lo:=⟨_,rfl⟩;rw [hp] at c0;skip
   have r:Hid (∀ V:World,Bl w V→Rt 196 #[I (lo:Int),.pointer (Az k0),.pointer (Az k1)] V (.bool (o lo))):=fun V B=>z.out V lo B (hp ▸ Lm f);have u:=Hd hp;clear hp
   cases hb2:o lo
   ·rw [hb2] at r;go_wp2_with (go_at_call 196;(with_reducible refine (r.out _ k.out).mono ?_);rintro e w1 ⟨rfl,b⟩;have d:=Hd (Qc k.out b);clear b)
    go_roundg (m - (i+1))
    case measure=>omega
    case rel =>
     refine ⟨i+1,γ,rfl,σ,fun j t C=>?_,d.out⟩;by_cases e:j=i
     ·subst e;rw [u.out];exact hb2
     ·exact q.out j t γ
   ·rw [hb2] at r;go_wp2_with (go_at_call 196;(with_reducible refine (r.out _ k.out).mono ?_);rintro e w1 ⟨rfl,b⟩;have d:=Hd (Qc k.out b);clear b)
    try rw [Exit.noGoto_ret]
    go_ret;exact ⟨⟨_,rfl,⟨fun _=>AnyL.mk (List.any_eq_true.2 ⟨_,Lm f,by rw [u.out];exact hb2⟩),fun _=>by omega⟩⟩,d.out⟩
  ·have D:¬ (i:Int)<(m:Int):=γ;go_wp2;go_ret;refine ⟨⟨_,rfl,⟨fun h=>by omega,fun h=>?_⟩⟩,k.out⟩;obtain ⟨p,hp,hq⟩:=List.any_eq_true.1 (show l.any o=true from h.out);obtain ⟨j,t,rfl⟩:=List.mem_iff_getElem.1 hp;have:=q.out j t (by have:=s.out.2;omega);rw [this] at hq
   cases hq
theorem Qbf (w:World) (a:Option Addr) (m c k0 k1:Nat) (l:List Nat) (d:Nat→Bool) (j:IRow w a l) (k:m=l.length) (i:m≤100000000)
  (g:Hid (∀ (V:World) (p:Nat),Bl w V→p∈l→Rt 196 #[I (p:Int),.pointer (Az k0),.pointer (Az k1)] V (.bool (d p)))) :
  Rt 164 #[.slice a m c,.func (.func 196) #[] #[.pointer (Az k0),.pointer (Az k1)]] w (.bool (l.any d)):=by
 have q:=Hd (indexInt_any w a m c k0 k1 l d j k i g);clear g j k i;go_enter Tryz.func164,Tryz.ntmps164;go_wp2_with (go_at_call 246;(with_reducible refine q.out.mono ?_);rintro e w1 ⟨⟨n,rfl,o⟩,b⟩;have f:=Hd b;clear b)
 go_ret;refine ⟨Qv ?_,f.out⟩;by_cases h:0≤n
 ·rw [decide_eq_true h];exact (o.out.1 h).out.symm
 ·rw [decide_eq_false h]
  cases hq:l.any d
  ·rfl
  ·exact absurd (o.out.2 (AnyL.mk hq)) h
theorem mt_on0 {x z y G:World} {H2:Nat} {n f d:Value} {D:MD} (a:Ow w base n c f d D) (J:Sam w x (fun k=>n.ownBlock=some k)) (P:x.ownsRow base 3 1 t (D.a0.length+1) (nV D.a0 ++ [I (i:Int)])) (A:∀ g,t.ownBlock=some g→n.ownBlock=some g∨g=H1) (H:Sam x z (fun k=>k=N6))
  (r:Sam z y (fun k=>f.ownBlock=some k)) (B:y.ownsRow base 3 1 u (D.a1.length+1) (nV D.a1 ++ [I (j:Int)])) (l:∀ g,u.ownBlock=some g→f.ownBlock=some g∨g=H2) (p:Sam y G (fun k=>k=N6)) (K:Sam G v (fun k=>k=Nt)) (h6:w.heap.size≤N6) (T:w.heap.size≤Nt) (R:N6<H1) (L:Nt<H1) (M:H1<H2) (O:Below base w v) :
  MtTo w v base n c f d ⟨D.a0 ++ [i],D.b0,D.a1 ++ [j],D.b1⟩ (.returned (.agg #[t,c,u,d])):=by
 have m:∀ g,t.ownBlock=some g→g<w.heap.size∨g=H1:=fun g e=>(A g e).imp (fun h=>(a.o0.lt g h).2) id;have C:∀ g,u.ownBlock=some g→g<w.heap.size∨g=H2:=fun g e=>(l g e).imp (fun h=>(a.o2.lt g h).2) id
 have F:∀ g,t.ownBlock=some g→f.ownBlock≠some g:=fun g e q=>by
  rcases A g e with h | h
  ·exact a.d0 g h q
  ·have:=(a.o2.lt g q).2;omega
 have a1:Ow x base t c f d ⟨D.a0 ++ [i],D.b0,D.a1,D.b1⟩:=Ow.put0 a J (Jn a.o1 a.o0 ψ) (fun g e q=>a.d0 g q e) (Jn a.o3 a.o0 ψ) (by rw [List.length_append,Vs];exact P) F
 have E:∀ k,mtB t c f d k→k<w.heap.size∨k=H1:=fun k b=>by
  rcases b with e | e | e | e
  ·exact m k e
  ·exact Or.inl (a.o1.lt k e).2
  ·exact Or.inl (a.o2.lt k e).2
  ·exact Or.inl (a.o3.lt k e).2
 have o:Ow z base t c f d ⟨D.a0 ++ [i],D.b0,D.a1,D.b1⟩:=a1.sam H fun k b e=>by have:=E k b;omega
 have Q:∀ g,u.ownBlock=some g→t.ownBlock≠some g:=fun g e q=>by
  rcases l g e with h | h
  ·exact F g q h
  ·have:=m g q;omega
 have a3:Ow y base t c u d ⟨D.a0 ++ [i],D.b0,D.a1 ++ [j],D.b1⟩:=Ow.put2 o r (F) (Jn o.o1 o.o2 ψ) (Jn o.o3 o.o2 ψ) (by rw [List.length_append,Vs];exact B) Q
 have s:∀ k,mtB t c u d k→k<w.heap.size∨k=H1∨k=H2:=fun k b=>by
  rcases b with e | e | e | e
  ·exact (m k e).imp id Or.inl
  ·exact Or.inl (a.o1.lt k e).2
  ·exact (C k e).imp id Or.inr
  ·exact Or.inl (a.o3.lt k e).2
 have a4:Ow v base t c u d ⟨D.a0 ++ [i],D.b0,D.a1 ++ [j],D.b1⟩:=(a3.sam p fun k b e=>by have:=s k b;omega).sam K fun k b e=>by have:=s k b;omega
 have N:Sam w v (mtB n c f d):=((((J.mono fun k _ e=>(Or.inl e:mtB n c f d k)).then H fun k b e=>by omega).then r fun k _ e=>Or.inr (Or.inr (Or.inl e))).then p fun k b e=>by omega).then K fun k b e=>by omega
 refine ⟨_,_,_,_,rfl,a4,N,fun k b=>?_,O⟩;rcases b with e | e | e | e
 ·exact (A k e).imp (fun e=>Or.inl e) (fun h=>by omega)
 ·exact Or.inl (Or.inr (Or.inl e))
 ·exact (l k e).imp (fun e=>Or.inr (Or.inr (Or.inl e))) (fun h=>by omega)
 ·exact Or.inl (Or.inr (Or.inr (Or.inr e)))
theorem mt_on2 {x z y G:World} {H2:Nat} {f n d:Value} {D:MD} (a:Ow w base f c n d D) (J:Sam w x (fun k=>n.ownBlock=some k)) (P:x.ownsRow base 3 1 t (D.a1.length+1) (nV D.a1 ++ [I (i:Int)])) (A:∀ g,t.ownBlock=some g→n.ownBlock=some g∨g=H1) (H:Sam x z (fun k=>k=N6))
  (r:Sam z y (fun k=>f.ownBlock=some k)) (B:y.ownsRow base 3 1 u (D.a0.length+1) (nV D.a0 ++ [I (j:Int)])) (l:∀ g,u.ownBlock=some g→f.ownBlock=some g∨g=H2) (p:Sam y G (fun k=>k=N6)) (K:Sam G v (fun k=>k=Nt)) (h6:w.heap.size≤N6) (T:w.heap.size≤Nt) (R:N6<H1) (L:Nt<H1) (M:H1<H2) (O:Below base w v) :
  MtTo w v base f c n d ⟨D.a0 ++ [j],D.b0,D.a1 ++ [i],D.b1⟩ (.returned (.agg #[u,c,t,d])):=by
 have m:∀ g,t.ownBlock=some g→g<w.heap.size∨g=H1:=fun g e=>(A g e).imp (fun h=>(a.o2.lt g h).2) id;have C:∀ g,u.ownBlock=some g→g<w.heap.size∨g=H2:=fun g e=>(l g e).imp (fun h=>(a.o0.lt g h).2) id
 have F:∀ g,t.ownBlock=some g→f.ownBlock≠some g:=fun g e q=>by
  rcases A g e with h | h
  ·exact a.d0 g q h
  ·have:=(a.o0.lt g q).2;omega
 have a1:Ow x base f c t d ⟨D.a0,D.b0,D.a1 ++ [i],D.b1⟩:=Ow.put2 a J (fun g e q=>a.d0 g e q) (Jn a.o1 a.o2 ψ) (Jn a.o3 a.o2 ψ) (by rw [List.length_append,Vs];exact P) F
 have E:∀ k,mtB f c t d k→k<w.heap.size∨k=H1:=fun k b=>by
  rcases b with e | e | e | e
  ·exact Or.inl (a.o0.lt k e).2
  ·exact Or.inl (a.o1.lt k e).2
  ·exact m k e
  ·exact Or.inl (a.o3.lt k e).2
 have o:Ow z base f c t d ⟨D.a0,D.b0,D.a1 ++ [i],D.b1⟩:=a1.sam H fun k b e=>by have:=E k b;omega
 have Q:∀ g,u.ownBlock=some g→t.ownBlock≠some g:=fun g e q=>by
  rcases l g e with h | h
  ·exact F g q h
  ·have:=m g q;omega
 have a3:Ow y base u c t d ⟨D.a0 ++ [j],D.b0,D.a1 ++ [i],D.b1⟩:=Ow.put0 o r (Jn o.o1 o.o0 ψ) (F) (Jn o.o3 o.o0 ψ) (by rw [List.length_append,Vs];exact B) Q
 have s:∀ k,mtB u c t d k→k<w.heap.size∨k=H1∨k=H2:=fun k b=>by
  rcases b with e | e | e | e
  ·exact (C k e).imp id Or.inr
  ·exact Or.inl (a.o1.lt k e).2
  ·exact (m k e).imp id Or.inl
  ·exact Or.inl (a.o3.lt k e).2
 have a4:Ow v base u c t d ⟨D.a0 ++ [j],D.b0,D.a1 ++ [i],D.b1⟩:=(a3.sam p fun k b e=>by have:=s k b;omega).sam K fun k b e=>by have:=s k b;omega
 have N:Sam w v (mtB f c n d):=((((J.mono fun k _ e=>(Or.inr (Or.inr (Or.inl e)):mtB f c n d k)).then H fun k b e=>by omega).then r fun k _ e=>Or.inl e).then p fun k b e=>by omega).then K fun k b e=>by omega
 refine ⟨_,_,_,_,rfl,a4,N,fun k b=>?_,O⟩;rcases b with e | e | e | e
 ·exact (l k e).imp (fun e=>Or.inl e) (fun h=>by omega)
 ·exact Or.inl (Or.inr (Or.inl e))
 ·exact (A k e).imp (fun e=>Or.inr (Or.inr (Or.inl e))) (fun h=>by omega)
 ·exact Or.inl (Or.inr (Or.inr (Or.inr e)))
end Go.Proofs.YtnpboeodhpenmaaGreatDoor
