/- A part of it. -/
import Derived.Test.YtbjmnlefkbhbdaaGreatDoorQlaq
set_option maxRecDepth 100000
set_option maxHeartbeats 40000000
namespace Go.Proofs.YtbjmnlefkbhbdaaGreatDoor
open Go.RowKit Go.ChangeMaps
variable {w w':World} {a c d e v:Value} {b n s:Nat} {row:Option Nat}
theorem Ur {b1 b2 f h n1 n2:Nat} {e1 e2:TypeId} {x1 x2:List Value} (h1:w.ownsRow b1 e1 f d n1 x1) (h2:w.ownsRow b2 e2 h e n2 x2) (c:e1≠e2):∀ g,d.ownBlock=some g→e.ownBlock≠some g:=fun g k1 k2=>by
 rcases h1.2 with ⟨rfl,_⟩ | ⟨g1,_,_,rfl,_,b,_⟩
 ·simp [Value.ownBlock] at k1
 ·rcases h2.2 with ⟨rfl,_⟩ | ⟨g2,_,_,rfl,_,a,_⟩
  ·simp [Value.ownBlock] at k2
  ·obtain rfl:g1=g:=by simpa [Value.ownBlock] using k1
   obtain rfl:g2=g1:=by simpa [Value.ownBlock] using k2
   rw [b] at a;simp at a;exact c a.2
theorem Xa {base:Nat} {e:TypeId} {i:List Value} (h:w.ownsRow base e s v n i) (hg:w.grownBy w' row) (f:∀ g,v.ownBlock=some g→row≠some g):w'.ownsRow base e s v n i:=by
 refine ⟨h.1, ?_⟩;rcases h.2 with h0 | ⟨g,a,b,rfl,hb,c,h3⟩
 ·exact Or.inl h0
 ·refine Or.inr ⟨g,a,b,rfl,hb, ?_,h3⟩
  have d:g<w.heap.size:=by
   rcases Nat.lt_or_ge g w.heap.size with k | k
   ·exact k
   ·rw [Array.getElem?_eq_none k] at c
    cases c
  rw [hg.block g d (fun k=>f g rfl k.symm)];exact c
theorem Qx {base o:Nat} {e:TypeId} {u:Value} {a:List Value} (h:w.ownsRow base e s v n a) (hb:b<base):(w.setCell ⟨b,o,none⟩ u).ownsRow base e s v n a:=Xa h (Qg w b o u) (fun g hg k=>by
 have:=Qn h g hg
 cases k;omega)
theorem Jo {b1 b2:Nat} {e:TypeId} {c:List Value} (h:w.ownsRow b1 e s v n c) (hb:b2≤b1):w.ownsRow b2 e s v n c:=by
 refine ⟨h.1, ?_⟩;rcases h.2 with h0 | ⟨g,a,b,rfl,k,h3⟩
 ·exact Or.inl h0
 ·exact Or.inr ⟨g,a,b,rfl,γ,h3⟩
def HB15 (w:World) (z:Nat) (f0 f1 f2 f3 f4 f5 f6 f7 f8 f9 f10 f11 f12 f13 f14:Value):Prop:=At w z 0 (f0)∧At w z 1 (f1)∧At w z 2 (f2)∧At w z 3 (f3)∧At w z 4 (f4)∧At w z 5 (f5)∧At w z 6 (f6)∧At w z 7 (f7)∧At w z 8 (f8)∧At w z 9 (f9)∧At w z 10 (f10)∧At w z 11 (f11)∧At w z 12 (f12)∧At w z 13 (f13)∧At w z 14 (f14)
theorem HB15.kept {z:Nat} {f0 f1 f2 f3 f4 k f6 l m n b f14:Value} (h:HB15 w z f0 f1 f2 f3 f4 k f6 l m n a b c d f14) (hb:Bl w w'):HB15 w' z f0 f1 f2 f3 f4 k f6 l m n a b c d f14:=by
 obtain ⟨h0,h1,h2,h3,h4,h5,h6,o,p,q,e,f,g,i,j⟩:=h;exact ⟨Qa hb h0,Qa hb h1,Qa hb h2,Qa hb h3,Qa hb h4,Qa hb h5,Qa hb h6,Qa hb o,Qa hb p,Qa hb q,Qa hb e,Qa hb f,Qa hb g,Qa hb i,Qa hb j⟩
theorem HB15.grown {z:Nat} {f0 f1 f2 f3 f4 l f6 m n o b f14:Value} (h:HB15 w z f0 f1 f2 f3 f4 l f6 m n o b c d e f14) (hg:w.grownBy w' row) (a:some z≠row):HB15 w' z f0 f1 f2 f3 f4 l f6 m n o b c d e f14:=by
 obtain ⟨h0,h1,h2,h3,h4,h5,h6,p,q,r,f,g,i,j,k⟩:=h;exact ⟨hg.cell h0 a,hg.cell h1 a,hg.cell h2 a,hg.cell h3 a,hg.cell h4 a,hg.cell h5 a,hg.cell h6 a,hg.cell p a,hg.cell q a,hg.cell r a,hg.cell f a,hg.cell g a,hg.cell i a,hg.cell j a,hg.cell k a⟩
def SB4 (w:World) (b:Nat) (u0 u1 u2 u3:Value):Prop:=(At w b 0 (u0)∧At w b 1 (u1)∧At w b 2 (u2)∧At w b 3 (u3))∧(Fn w b 0∧Fn w b 1∧Fn w b 2∧Fn w b 3)
theorem SB4.kept (h:SB4 w b a c d e) (hb:Bl w w'):SB4 w' b a c d e:=by
 obtain ⟨⟨h0,h1,h2,h3⟩,f0,f1,f2,f3⟩:=h;exact ⟨⟨Qa hb h0,Qa hb h1,Qa hb h2,Qa hb h3⟩,Qf hb h0 f0,Qf hb h1 f1,Qf hb h2 f2,Qf hb h3 f3⟩
theorem SB4.grown {f:Value} (h:SB4 w b c d e f) (hg:w.grownBy w' row) (a:some b≠row):SB4 w' b c d e f:=by
 obtain ⟨⟨h0,h1,h2,h3⟩,f0,f1,f2,f3⟩:=h;have hl:=bk h0;have fz:∀ o,Fn w b o→Fn w' b o:=fun o k=>(Fo (hg.block b hl a)).trans k;exact ⟨⟨hg.cell h0 a,hg.cell h1 a,hg.cell h2 a,hg.cell h3 a⟩,fz _ f0,fz _ f1,fz _ f2,fz _ f3⟩
theorem SB4.set3 (h:SB4 w b a c d e):SB4 (w.setCell ⟨b,3,none⟩ v) b a c d v:=by
 obtain ⟨⟨h0,h1,h2,h3⟩,f0,f1,f2,f3⟩:=h;refine ⟨⟨?_, ?_, ?_,Cs _ _ _ h3⟩, ?_, ?_, ?_, ?_⟩
 ·exact (Co _ _ _ _ ν).trans h0
 ·exact (Co _ _ _ _ ν).trans h1
 ·exact (Co _ _ _ _ ν).trans h2
 ·(try simp only [Fn]);rw [Fz];exact f0
 ·(try simp only [Fn]);rw [Fz];exact f1
 ·(try simp only [Fn]);rw [Fz];exact f2
 ·(try simp only [Fn]);rw [Fz];exact f3
def set4 (w:World) (b:Nat) (u0 u1 u2 u3:Value):World:=(((w.setCell ⟨b,0,none⟩ u0).setCell ⟨b,1,none⟩ u1).setCell ⟨b,2,none⟩ u2).setCell ⟨b,3,none⟩ u3
theorem set4_grown (w:World) (b:Nat) (f g h i:Value):w.grownBy (set4 w b f g h i) (some b):=by
 refine ⟨rfl,rfl,rfl,by simp [set4],fun k a c=>?_⟩;have e:∀ (v:World) (o:Nat) (u:Value),k<v.heap.size→(v.setCell ⟨b,o,none⟩ u).heap[k]?=v.heap[k]?:=fun v o u d=>(Qg v b o u).block k d c;unfold set4;rw [e _ _ _ (by simpa using a),e _ _ _ (by simpa using a),e _ _ _ (by simpa using a),e _ _ _ a]
theorem SB4.set4 {f g v0 v3:Value} (h:SB4 w b d e f g):SB4 (set4 w b v0 a c v3) b v0 a c v3:=by
 obtain ⟨⟨h0,h1,h2,h3⟩,f0,f1,f2,f3⟩:=h;unfold Proofs.YtbjmnlefkbhbdaaGreatDoor.set4;refine ⟨⟨?_, ?_, ?_, ?_⟩, ?_, ?_, ?_, ?_⟩
 ·simp [go_sem,h0]
 ·simp [go_sem,h1]
 ·simp [go_sem,h2]
 ·simp [go_sem,h3]
 ·simp [f0]
 ·simp [f1]
 ·simp [f2]
 ·simp [f3]
theorem infCr:(Tryz.prog.info? 122).map (fun i=>(i.zero,i.size,i.bytes))=some (some (.agg #[I 0,I 0,I 0,I 0,I 0]),5,40):=μ
def sk (kd:C5→Int) (j:C5):C5:=(j.1,kd j)
def crL (kd:C5→Int) (Cs SL:List C5) (i:Nat):List C5:=Cs ++ (SL.take i).map (sk kd)
theorem crL_zero (kd:C5→Int) (a b:List C5):crL kd a b 0=a:=by simp [crL]
theorem crL_one (kd:C5→Int) (b a:List C5) (i:Nat) (h:i<a.length):crL kd b a (i+1)=crL kd b a i ++ [sk kd a[i]]:=by
 unfold crL;have e:a.take (i+1)=a.take i ++ [a[i]]:=by first | exact (List.take_append_getElem h).symm | exact (List.take_concat_get' _ _ h).symm | exact List.take_succ_eq_append_getElem h
 rw [e,List.map_append,← List.append_assoc];rfl
theorem crL_len (kd:C5→Int) (a b:List C5) (i:Nat) (h:i≤b.length):(crL kd a b i).length=a.length+i:=by simp [crL];omega
theorem five1 (a b c d e:Int):∀ u ∈ [I a,I b,I c,I d,I e],u.oneCell'=true:=by
 intro u f;simp at f;rcases f with rfl | rfl | rfl | rfl | rfl <;> rfl
theorem flatJ_app (l:List C5) (x:C5):flatJ (l ++ [x])=flatJ l ++ [I x.1.1,I x.1.2.1,I x.1.2.2.1,I x.1.2.2.2,I x.2]:=by simp [flatJ]
def ltE (x y:C5):Bool:=lessE x.1.1 x.1.2.1 x.1.2.2.1 x.1.2.2.2 y.1.1 y.1.2.1 y.1.2.2.1 y.1.2.2.2
def CrTo (w w':World) (W H:Int) (zs:List Int) (Ls:List C5) (e:Ending):Prop := ∃ va b cb Bs,e=.returned (.agg #[I W,I H,va,.slice b Ls.length cb])∧w'.ownsRow w.heap.size 3 1 va zs.length (zs.map (Value.int .i64))∧Bs.Perm Ls∧Bs.Pairwise (fun x y=>ltE y x=false)∧JRow w' b Bs∧(b=none∨∃ g,b=Az g∧w.heap.size≤g)∧Bl w w'
def CrI (w wx:World) (f0 f1 f2 f3 f4 f5 f6 f7 f8 f9 f10 f11 f12 f13 f14:Value) (W H:Int) (va sv:Value) (zs:List Int) (kd:C5→Int) (Cs SL:List C5) (i:Nat) (v:Value):Prop:=wx.ownsRow (w.heap.size+1+1+1) 122 5 v (crL kd Cs SL i).length (flatJ (crL kd Cs SL i))∧wx.ownsRow (w.heap.size+1+1+1) 3 1 va zs.length (zs.map (Value.int .i64))∧wx.ownsRow (w.heap.size+1+1+1) 197 5 sv SL.length (flatJ SL)∧SB4 wx (w.heap.size+1) (I W) (I H) va v∧SB4 wx (w.heap.size+1+1) (I 0) (I 0) SN SN∧HB15 wx w.heap.size f0 f1 f2 f3 f4 f5 f6 f7 f8 f9 f10 f11 f12 f13 f14∧Bl w wx
theorem creased_any (f0 f1 f2 f3 f4 M f6 N O Q d f l m f14 ae af:Value) (W H:Int) (zs:List Int) (kd:C5→Int) (z c:List C5) (w:World) (ag:z.length+c.length≤100000)
  (aq:∀ V:World,Bl w V→Cl 65 #[.agg #[I W,I H,ae,af]] V fun e w'=>∃ va vc,e=.returned (.agg #[I W,I H,va,vc])∧w'.ownsRow V.heap.size 3 1 va zs.length (zs.map (Value.int .i64))∧w'.ownsRow V.heap.size 122 5 vc z.length (flatJ z)∧Bl V w')
  (ar:∀ V:World,Bl w V→Cl 124 #[.agg #[f0,f1,f2,f3,f4,M,f6,N,O,Q,d,f,l,m,f14]] V fun e w'=>∃ v,e=.returned v∧w'.ownsRow V.heap.size 197 5 v c.length (flatJ c)∧Bl V w')
  (au:∀ (V:World) (j:C5),Bl w V→j∈c→Rt 126 #[.agg #[f0,f1,f2,f3,f4,M,f6,N,O,Q,d,f,l,m,f14],.agg #[I j.1.1,I j.1.2.1,I j.1.2.2.1,I j.1.2.2.2,I j.2]] V (I (kd j)))
  (aw:∀ (V:World) (base c8:Nat) (a8:Option Addr) (Y:List C5),V.ownsRow base 122 5 (.slice a8 Y.length c8) Y.length (flatJ Y)→Y.length<4611686018427387904→Cl 127 #[.slice a8 Y.length c8,.func (.func 128) #[] #[]] V fun e w'=>e=.returned (.tuple #[])∧∃ Bs',Bs'.Perm Y∧Bs'.Pairwise (fun x y=>ltE y x=false)∧JRow w' a8 Bs'∧V.grownBy w' (Value.slice a8 Y.length c8).ownBlock) :
  Cl 80 #[.agg #[f0,f1,f2,f3,f4,M,f6,N,O,Q,d,f,l,m,f14],.agg #[I W,I H,ae,af]] w fun e w'=>CrTo w w' W H zs (crL kd z c c.length) e:=by
 have ba:=Hd aq;have bb:=Hd ar;have bc:=Hd au;have be:=Hd aw;obtain ⟨i5,ay,b6,b7,b8⟩:=info_parts infCr;have HI:=H4 ay b6 b7 b8;have HL:=Hd ag;clear aq ar au aw ay b6 b7 b8 ag;go_enter Tryz.func80,Tryz.ntmps80;go_upto_region 1 with fail
 refine Qj (fun W0 hW0=>?_)
 have H0:Hid (SB4 W0 (w.heap.size+1) (I W) (I H) ae af∧SB4 W0 (w.heap.size+1+1) (I 0) (I 0) SN SN∧HB15 W0 w.heap.size f0 f1 f2 f3 f4 M f6 N O Q d f l m f14∧Bl w W0∧W0.heap.size=w.heap.size+1+1+1):=by
  rw [hW0];refine ⟨?_, ?_, ?_, ?_, ?_⟩
  ·simp [SB4,go_sem]
  ·simp [SB4,go_sem]
  ·simp [HB15,go_sem]
  ·with_reducible repeat' (first | exact Qd _ | refine Qc ?_ | refine Qe ?_)
  ·simp [go_sem]
 clear hW0;obtain ⟨⟨k0,k1,k2,k3⟩,_⟩:=H0.out.1;go_upto_region 2 with (go_at_call 65;refine (ba.out _ H0.out.2.2.2.1).mono ?_;rintro e w5 ⟨va,vc,rfl,hA,hC,hb⟩;have Z:Hid (SB4 w5 (w.heap.size+1) (I W) (I H) ae af∧SB4 w5 (w.heap.size+1+1) (I 0) (I 0) SN SN∧HB15 w5 w.heap.size f0 f1 f2 f3 f4 M f6 N O Q d f l m f14∧Bl w w5∧w5.ownsRow (w.heap.size+1+1+1) 122 5 vc z.length (flatJ z)∧w5.ownsRow (w.heap.size+1+1+1) 3 1 va zs.length (zs.map (Value.int .i64))):=⟨H0.out.1.kept hb,H0.out.2.1.kept hb,H0.out.2.2.1.kept hb,Qb H0.out.2.2.2.1 hb,Jo hC (by have:=H0.out.2.2.2.2;omega),Jo hA (by have:=H0.out.2.2.2.2;omega)⟩;obtain ⟨T,U,bi,_⟩:=Qt hA;obtain ⟨ab,cb,bj,_⟩:=Qt hC;clear hA hC hb k0 k1 k2 k3;subst bi;subst bj;obtain ⟨⟨k0,k1,k2,k3⟩,y0,y1,y2,y3⟩:=Z.out.1;have kz:=bk k0)
 refine Qj (fun E a6=>?_)
 have H6:Hid (SB4 E (w.heap.size+1) (I W) (I H) (.slice T zs.length U) (.slice ab z.length cb)∧SB4 E (w.heap.size+1+1) (I 0) (I 0) SN SN∧HB15 E w.heap.size f0 f1 f2 f3 f4 M f6 N O Q d f l m f14∧Bl w E∧E.ownsRow (w.heap.size+1+1+1) 122 5 (.slice ab z.length cb) z.length (flatJ z)∧E.ownsRow (w.heap.size+1+1+1) 3 1 (.slice T zs.length U) zs.length (zs.map (Value.int .i64))):=by
  have e:E=set4 w5 (w.heap.size+1) (I W) (I H) (.slice T zs.length U) (.slice ab z.length cb):=a6;rw [e];have hg:=set4_grown w5 (w.heap.size+1) (I W) (I H) (.slice T zs.length U) (.slice ab z.length cb)
  have hn:∀ {b s n:Nat} {e:TypeId} {v:Value} {xs:List Value},w5.ownsRow (w.heap.size+1+1+1) e s v n xs→∀ g,v.ownBlock=some g→some (w.heap.size+1)≠some g:=fun h g hg k=>by
   have:=Qn h g hg
   cases k;omega
  refine ⟨Z.out.1.set4,Z.out.2.1.grown hg ν,Z.out.2.2.1.grown hg ν,Z.out.2.2.2.1.grown hg Z.out.2.2.2.1.size (fun k h=>by cases h;omega),Xa Z.out.2.2.2.2.1 hg (hn (b:=0) Z.out.2.2.2.2.1),Xa Z.out.2.2.2.2.2 hg (hn (b:=0) Z.out.2.2.2.2.2)⟩
 clear a6 Z H0 k0 k1 k2 k3 y0 y1 y2 y3 kz;obtain ⟨x0,x1,x2,x3,x4,x5,x6,x7,x8,x9,bn,bo,bp,bq,br⟩:=H6.out.2.2.1;go_wp2_with (go_at_call 124;refine (bb.out _ H6.out.2.2.2.1).mono ?_;rintro e w7 ⟨sv,rfl,hS,hb⟩;have b9:w.heap.size+1+1+1≤E.heap.size:=(by have:=bk H6.out.2.1.1.1;dsimp only at this;omega);have H7:Hid (CrI w w7 f0 f1 f2 f3 f4 M f6 N O Q d f l m f14 W H (.slice T zs.length U) sv zs kd z c 0 (.slice ab z.length cb)):=⟨by rw [crL_zero];exact Qh H6.out.2.2.2.2.1 hb,Qh H6.out.2.2.2.2.2 hb,Jo hS b9,H6.out.1.kept hb,H6.out.2.1.kept hb,H6.out.2.2.1.kept hb,Qb H6.out.2.2.2.1 hb⟩;obtain ⟨sa,sc,rfl,_,_⟩:=Ub hS;clear hS hb b9)
 clear x0 x1 x2 x3 x4 x5 x6 x7 x8 x9 bn bo bp bq br H6;go_loopg [6,12] c.length (fun gk s6 bm wx=>∃ i:Nat,i≤c.length∧gk=c.length - i∧bm=I (i:Int)∧∃ v,CrI w wx f0 f1 f2 f3 f4 M f6 N O Q d f l m f14 W H (.slice T zs.length U) (.slice sa c.length sc) zs kd z c i v)
 case atStart=>exact ⟨0,γ,rfl,rfl,_,H7.out⟩
 case round =>
  clear H7;obtain ⟨i,hi,rfl,rfl,v,hR⟩:=hrel;have D:=Hd hR;clear hR;by_cases h1:i<c.length
  ·have i1:(i:Int)<(c.length:Int):=γ;have i0:(0:Int)≤(i:Int):=γ;have ao:=Hd (crL_len kd z c i hi);have HE:=Hd (crL_one kd z c i h1)
   have az:JRow wr sa c:=by
    obtain ⟨a9,c9,e9,_,h9⟩:=Ub D.out.2.2.1
    cases e9;exact h9
   obtain ⟨gs,bh,c0,c1,c2,c3,c4⟩:=az i h1;subst bh;have ak:c[i]∈c:=Lm h1;clear az;generalize c[i]=j at c0 c1 c2 c3 c4 ak HE;have CC:Hid (∀ V:World,Bl w V→Rt 126 #[.agg #[f0,f1,f2,f3,f4,M,f6,N,O,Q,d,f,l,m,f14],.agg #[I j.1.1,I j.1.2.1,I j.1.2.2.1,I j.1.2.2.2,I j.2]] V (I (kd j))):=fun V hV=>bc.out V j hV ak;clear ak;go_upto_region 5 with fail
   refine Qj (fun E a6=>?_);have e6:E=wr.alloc (.cells #[I j.1.1,I j.1.2.1,I j.1.2.2.1,I j.1.2.2.2,I j.2] 197):=a6;have q6:Bl wr E:=by rw [e6];exact Qc (Qd _)
   have s6:At E wr.heap.size 0 (I j.1.1)∧At E wr.heap.size 1 (I j.1.2.1)∧At E wr.heap.size 2 (I j.1.2.2.1)∧At E wr.heap.size 3 (I j.1.2.2.2)∧At E wr.heap.size 4 (I j.2):=by rw [e6];simp [go_sem]
   have z6:E.heap.size=wr.heap.size+1:=by rw [e6];simp [go_sem]
   clear a6 e6 c0 c1 c2 c3 c4;have p:Hid (CrI w E f0 f1 f2 f3 f4 M f6 N O Q d f l m f14 W H (.slice T zs.length U) (.slice (Az gs) c.length sc) zs kd z c i v):=⟨Qh D.out.1 q6,Qh D.out.2.1 q6,Qh D.out.2.2.1 q6,D.out.2.2.2.1.kept q6,D.out.2.2.2.2.1.kept q6,D.out.2.2.2.2.2.1.kept q6,Qb D.out.2.2.2.2.2.2 q6⟩;have an:=Bt D.out.2.2.2.2.1.1.1;clear q6;obtain ⟨L,K⟩:∃ b,b=wr.heap.size:=⟨_,rfl⟩;rw [← K] at s6 z6 an ⊢;have HZ:=H2 z6 an;have bf:=Hd K;clear z6 an K;obtain ⟨C,J,hv,_⟩:=Qt p.out.1;subst hv;obtain ⟨B,ac⟩:∃ n,n=(crL kd z c i).length:=⟨_,rfl⟩;have t:=Hd ac
   have HS:Hid (∀ V:World,Bl E V→(fun w'=>At w' (w.heap.size+1) 3 (.slice C B J)∧(At w' w.heap.size 0 (f0)∧At w' w.heap.size 1 (f1)∧At w' w.heap.size 2 (f2)∧At w' w.heap.size 3 (f3)∧At w' w.heap.size 4 (f4)∧At w' w.heap.size 5 (M)∧At w' w.heap.size 6 (f6)∧At w' w.heap.size 7 (N)∧At w' w.heap.size 8 (O)∧At w' w.heap.size 9 (Q)∧At w' w.heap.size 10 (d)∧At w' w.heap.size 11 (f)∧At w' w.heap.size 12 (l)∧At w' w.heap.size 13 (m)∧At w' w.heap.size 14 (f14))∧(At w' L 0 (I j.1.1)∧At w' L 1 (I j.1.2.1)∧At w' L 2 (I j.1.2.2.1)∧At w' L 3 (I j.1.2.2.2)∧At w' L 4 (I j.2))) V):=fun V hV=>by
    have a1:=(p.out.2.2.2.1.kept hV).1.2.2.2;rw [← t.out] at a1
    exact ⟨a1,p.out.2.2.2.2.2.1.kept hV,by
     obtain ⟨b0,b1,b2,b3,b4⟩:=s6;exact ⟨Qa hV b0,Qa hV b1,Qa hV b2,Qa hV b3,Qa hV b4⟩⟩
   clear ac;refine Qz (S:=fun w'=>At w' (w.heap.size+1) 3 (.slice C B J)∧(At w' w.heap.size 0 (f0)∧At w' w.heap.size 1 (f1)∧At w' w.heap.size 2 (f2)∧At w' w.heap.size 3 (f3)∧At w' w.heap.size 4 (f4)∧At w' w.heap.size 5 (M)∧At w' w.heap.size 6 (f6)∧At w' w.heap.size 7 (N)∧At w' w.heap.size 8 (O)∧At w' w.heap.size 9 (Q)∧At w' w.heap.size 10 (d)∧At w' w.heap.size 11 (f)∧At w' w.heap.size 12 (l)∧At w' w.heap.size 13 (m)∧At w' w.heap.size 14 (f14))∧(At w' L 0 (I j.1.1)∧At w' L 1 (I j.1.2.1)∧At w' L 2 (I j.1.2.2.1)∧At w' L 3 (I j.1.2.2.2)∧At w' L 4 (I j.2))) (late:=fun j=>decide (j=11)) μ ?_;have G:=HS.out _ (Qe (Qd E));refine Lk 0 (.pointer (Ad (w.heap.size+1) 3)) G ?_;refine Lk 1 (.slice C B J) G ?_;refine Lk 2 (.pointer (Az L)) G ?_;refine Lk 3 (.agg #[I j.1.1,I j.1.2.1,I j.1.2.2.1,I j.1.2.2.2]) G ?_;refine Lk 4 (.agg #[f0,f1,f2,f3,f4,M,f6,N,O,Q,d,f,l,m,f14]) G ?_;refine Lk 5 (.agg #[I j.1.1,I j.1.2.1,I j.1.2.2.1,I j.1.2.2.2,I j.2]) G ?_;refine Lt.one (i:=6) μ rfl rfl ?_;refine Jc 126 #[.agg #[f0,f1,f2,f3,f4,M,f6,N,O,Q,d,f,l,m,f14],.agg #[I j.1.1,I j.1.2.1,I j.1.2.2.1,I j.1.2.2.2,I j.2]] μ (CC.out _ (Qe p.out.2.2.2.2.2.2)) ?_;rintro e w1 ⟨rfl,ax⟩;have ad:Hid (Bl E w1):=Qb (Qe (Qd _)) ax;clear ax;refine ⟨_,rfl,fun _=>HS.out _ ad.out, ?_⟩;try simp only [Ap]
   replace G:=HS.out _ ad.out;refine Lk 7 (.agg #[I j.1.1,I j.1.2.1,I j.1.2.2.1,I j.1.2.2.2,I (kd j)]) G ?_;refine Lt.one (i:=8) μ rfl rfl ?_;go_simp;have r:Hid (Bl E (w1.alloc (.cells #[I j.1.1,I j.1.2.1,I j.1.2.2.1,I j.1.2.2.2,I (kd j)] 122))):=Qc ad.out;refine ⟨HS.out _ r.out, ?_⟩
   have X:(w1.alloc (.cells #[I j.1.1,I j.1.2.1,I j.1.2.2.1,I j.1.2.2.2,I (kd j)] 122)).ownsRow (w.heap.size+1+1+1) 122 5 (.slice C B J) B (flatJ (crL kd z c i)):=by
    have:=Qh p.out.1 r.out;rw [← t.out] at this;exact this
   obtain ⟨u8,w8,hr,am,A,bg,b5⟩:=run_append_own_at (P:=Tryz.prog) (w1.alloc (.cells #[I j.1.1,I j.1.2.1,I j.1.2.2.1,I j.1.2.2.2,I (kd j)] 122)) (w.heap.size+1+1+1) 24 24 122 i5 (.agg #[I 0,I 0,I 0,I 0,I 0]) 5 40 Tryz.underlying24 HI.out.1 HI.out.2.1 HI.out.2.2.1 HI.out.2.2.2 rfl τ (.slice C B J) B (flatJ (crL kd z c i)) X ⟨w1.heap.size,0,none⟩ 1 1 [I j.1.1,I j.1.2.1,I j.1.2.2.1,I j.1.2.2.2,I (kd j)] rfl (Xr w1 122 _ _ _ _ _) (five1 _ _ _ _ _) (by have:=HL.out;have:=t.out;have:=ao.out;unfold maxLen;omega) (by have:=HL.out;have:=t.out;have:=ao.out;omega) (by have a:=r.out.size;have b:=HZ.out;omega);obtain ⟨a8,c8,rfl,_⟩:=Qt am
   have R:∀ b,b<w.heap.size+1+1+1→some b≠(Value.slice C B J).ownBlock:=fun b hb k=>by
    have:=Qn X b k.symm;omega
   have F:Hid (SB4 w8 (w.heap.size+1) (I W) (I H) (.slice T zs.length U) (.slice C B J)∧SB4 w8 (w.heap.size+1+1) (I 0) (I 0) SN SN∧HB15 w8 w.heap.size f0 f1 f2 f3 f4 M f6 N O Q d f l m f14∧w8.ownsRow (w.heap.size+1+1+1) 3 1 (.slice T zs.length U) zs.length (zs.map (Value.int .i64))∧w8.ownsRow (w.heap.size+1+1+1) 197 5 (.slice (Az gs) c.length sc) c.length (flatJ c)):=by
    have a4:=p.out.2.2.2.1.kept r.out;rw [← t.out] at a4;exact ⟨a4.grown A (R _ γ),(p.out.2.2.2.2.1.kept r.out).grown A (R _ γ),(p.out.2.2.2.2.2.1.kept r.out).grown A (R _ γ),Xa (Qh p.out.2.1 r.out) A (Ur (Qh p.out.2.1 r.out) X τ),Xa (Qh p.out.2.2.1 r.out) A (Ur (Qh p.out.2.2.1 r.out) X τ)⟩
   have ah:Hid (Bl w w8):=(Qb p.out.2.2.2.2.2.2 r.out).grown A (Qb p.out.2.2.2.2.2.2 r.out).size (fun k h=>by have:=Qn X k h;omega);have ap:=Hd am
   have ai:(fun w'=>At w' (w.heap.size+1) 3 (.slice C B J)∧(At w' w.heap.size 0 (f0)∧At w' w.heap.size 1 (f1)∧At w' w.heap.size 2 (f2)∧At w' w.heap.size 3 (f3)∧At w' w.heap.size 4 (f4)∧At w' w.heap.size 5 (M)∧At w' w.heap.size 6 (f6)∧At w' w.heap.size 7 (N)∧At w' w.heap.size 8 (O)∧At w' w.heap.size 9 (Q)∧At w' w.heap.size 10 (d)∧At w' w.heap.size 11 (f)∧At w' w.heap.size 12 (l)∧At w' w.heap.size 13 (m)∧At w' w.heap.size 14 (f14))∧(At w' L 0 (I j.1.1)∧At w' L 1 (I j.1.2.1)∧At w' L 2 (I j.1.2.2.1)∧At w' L 3 (I j.1.2.2.2)∧At w' L 4 (I j.2))) w8:=by
    have K:some L≠(Value.slice C B J).ownBlock:=fun k=>by
     have:=(D.out.1.lt L (by rw [← t.out];exact k.symm)).2;have:=bf.out;omega
    obtain ⟨_,_,b0,b1,b2,b3,b4⟩:=HS.out _ r.out;exact ⟨F.out.1.1.2.2.2,F.out.2.2.1,A.cell b0 K,A.cell b1 K,A.cell b2 K,A.cell b3 K,A.cell b4 K⟩
   have x3:=F.out.1.1.2.2.2;have xf:=F.out.1.2.2.2.2;try simp only [Ap]
   refine Lt.one (i:=9) μ rfl rfl ?_;refine Jd (.tmp 17) (.tmp 24) 24 rfl _ _ (.slice a8 (B+1) c8) w8 rfl rfl hr ?_;refine ⟨fun _=>ai, ?_⟩;try simp only [Ap]
   refine Lk 10 (.pointer (Ad (w.heap.size+1) 3)) ai ?_;refine Lt.one (i:=11) μ rfl rfl ?_;refine Yb (w':=w8.setCell ⟨w.heap.size+1,3,none⟩ (.slice a8 (B+1) c8)) (by first | go_simp | simp [go_sem,x3,xf]) ?_;refine ⟨fun h=>absurd h τ, ?_⟩;try simp only [Ap]
   refine Lt.done μ ?_
   have HF:Hid (CrI w (w8.setCell ⟨w.heap.size+1,3,none⟩ (.slice a8 (B+1) c8)) f0 f1 f2 f3 f4 M f6 N O Q d f l m f14 W H (.slice T zs.length U) (.slice (Az gs) c.length sc) zs kd z c (i+1) (.slice a8 (B+1) c8)):=by
    have hg:=Qg w8 (w.heap.size+1) 3 (.slice a8 (B+1) c8);refine ⟨?_,Qx F.out.2.2.2.1 γ,Qx F.out.2.2.2.2 γ,F.out.1.set3,F.out.2.1.grown hg ν,F.out.2.2.1.grown hg ν,ah.out.grown hg ah.out.size (fun k h=>by cases h;omega)⟩;have h9:=Qx (b:=w.heap.size+1) (o:=3) (u:=(.slice a8 (B+1) c8)) ap.out γ;rw [HE.out,flatJ_app,List.length_append,← t.out];exact h9
   clear ai HS G F ah ap x3 xf R A hr am bg b5 X r ad s6 p;go_wp2;go_roundg (c.length - (i+1))
   case measure=>omega
   case rel=>exact ⟨i+1,γ,rfl,(by have:=HL.out;refine congrArg _ ?_;unfold wrap64;omega),_,HF.out⟩
  ·have i1:¬ (i:Int)<(c.length:Int):=γ;obtain rfl:i=c.length:=γ;obtain ⟨C,J,hv,_⟩:=Qt D.out.1;subst hv;obtain ⟨B,ac⟩:∃ n,n=(crL kd z c c.length).length:=⟨_,rfl⟩;have t:=Hd ac;have HX:Hid (SB4 wr (w.heap.size+1) (I W) (I H) (.slice T zs.length U) (.slice C B J)):=by rw [t.out];exact D.out.2.2.2.1
   obtain ⟨⟨k0,k1,k2,k3⟩,_⟩:=HX.out
   have C9:Hid (Cl 127 #[.slice C B J,.func (.func 128) #[] #[]] wr fun e w'=>e=.returned (.tuple #[])∧∃ Bs',Bs'.Perm (crL kd z c c.length)∧Bs'.Pairwise (fun x y=>ltE y x=false)∧JRow w' C Bs'∧wr.grownBy w' (Value.slice C B J).ownBlock):=by
    rw [t.out];exact be.out wr _ J C _ D.out.1 (by rw [crL_len kd z c _ (Nr _)];have:=HL.out;omega)
   clear ac;go_upto_region 8 with (go_at_call 127;refine C9.out.mono ?_;rintro e w9 ⟨rfl,Y,hP,hS,hJ,hG⟩)
   have R:∀ b,b<w.heap.size+1+1+1→some b≠(Value.slice C B J).ownBlock:=fun b hb k=>by
    have:=Qn D.out.1 b (by rw [← t.out];exact k.symm);omega
   have H9:Hid (SB4 w9 (w.heap.size+1) (I W) (I H) (.slice T zs.length U) (.slice C B J)∧SB4 w9 (w.heap.size+1+1) (I 0) (I 0) SN SN∧w9.ownsRow (w.heap.size+1+1+1) 3 1 (.slice T zs.length U) zs.length (zs.map (Value.int .i64))∧Bl w w9):=⟨HX.out.grown hG (R _ γ),D.out.2.2.2.2.1.grown hG (R _ γ),Xa D.out.2.1 hG (by have:=Ur D.out.2.1 D.out.1 τ;rw [t.out];exact this),D.out.2.2.2.2.2.2.grown hG D.out.2.2.2.2.2.2.size (fun k h=>by have:=Qn D.out.1 k (by rw [← t.out];exact h);omega)⟩
   have HJ:Hid (Y.Perm (crL kd z c c.length)∧Y.Pairwise (fun x y=>ltE y x=false)∧JRow w9 C Y∧(C=none∨∃ g,C=Az g∧w.heap.size+1+1+1≤g)):=by
    refine ⟨hP,hS,hJ, ?_⟩;rcases D.out.1.2 with ⟨h2,_⟩ | ⟨g,bt,bu,h2,h3,_⟩
    ·injection h2 with h4;exact Or.inl h4
    ·injection h2 with h4;exact Or.inr ⟨g,h4,h3⟩
   clear hP hS hJ hG k0 k1 k2 k3 R;obtain ⟨⟨k0,k1,k2,k3⟩,_⟩:=H9.out.1;obtain ⟨⟨d0,d1,d2,d3⟩,e0,e1,e2,e3⟩:=H9.out.2.1;have y0:=bk k0;have y1:=bk d0;dsimp only at y0 y1;go_wp2;refine bodyPost_ret (v:=.agg #[I W,I H,.slice T zs.length U,.slice C B J]) (by simp [results,Tryz.results80,go_sem,d0,d1,d2,d3]) rfl ?_;have hg:=set4_grown w9 (w.heap.size+1+1) (I W) (I H) (.slice T zs.length U) (.slice C B J);refine ⟨.slice T zs.length U,C,J,Y,by rw [t.out], ?_,HJ.out.1,HJ.out.2.1, ?_, ?_, ?_⟩
   ·exact Jo (Xa H9.out.2.2.1 hg (fun g h k=>by have:=Qn H9.out.2.2.1 g h;cases k;omega)) γ
   ·intro q hq;obtain ⟨g,aj,a0,a1,a2,a3,a4⟩:=HJ.out.2.2.1 q hq
    have a7:some g≠some (w.heap.size+1+1):=by
     rcases HJ.out.2.2.2 with h5 | ⟨g',h5,h6⟩
     ·rw [aj] at h5
      cases h5
     ·rw [aj] at h5
      cases h5;intro k
      cases k;omega
    exact ⟨g,aj,hg.cell a0 a7,hg.cell a1 a7,hg.cell a2 a7,hg.cell a3 a7,hg.cell a4 a7⟩
   ·rcases HJ.out.2.2.2 with h5 | ⟨g',h5,h6⟩
    ·exact Or.inl h5
    ·exact Or.inr ⟨g',h5,γ⟩
   ·exact H9.out.2.2.2.grown hg H9.out.2.2.2.size (fun k h=>by cases h;omega)
end Go.Proofs.YtbjmnlefkbhbdaaGreatDoor
namespace Go.Proofs
open Go.Shelf
def Tryz.sortCrease_ren:Go.Shelf.Ren:=⟨fun | 6=>127 | 15=>142 | 14=>160 | 28=>173 | 29=>174 | 20=>195 | 21=>196 | 22=>197 | 23=>198 | 24=>199 | 25=>200 | 26=>201 | 27=>202 | 46=>227 | 47=>209 | 48=>210 | 49=>228 | 50=>229 | 57=>246 | n=>n,fun | 22=>24 | 24=>122 | 25=>202 | 3=>3 | 39=>154 | 0=>0 | 53=>207 | 55=>210 | 4=>4 | 46=>245 | 45=>244 | 50=>151 | 5=>5 | 9=>9 | 66=>276 | 70=>280 | 76=>300 | 77=>301 | n=>n,fun | n=>n⟩
theorem Tryz.sortCrease:Go.Proofs.SlLaysF0.n6 Tryz.prog Tryz.sortCrease_ren:={
 mixed:=by kernel_rfl
 f6:=⟨Tryz.f127.name,by decide,Tryz.func127.trans (congrArg some (by kernel_rfl))⟩
 f14:=⟨Tryz.f160.name,by decide,Tryz.func160.trans (congrArg some (by kernel_rfl))⟩
 f15:=Tryz.func142.trans (congrArg some (by kernel_rfl))
 f20:=⟨Tryz.f195.name,by decide,Tryz.func195.trans (congrArg some (by kernel_rfl))⟩
 f21:=⟨Tryz.f196.name,by decide,Tryz.func196.trans (congrArg some (by kernel_rfl))⟩
 f22:=⟨Tryz.f197.name,by decide,Tryz.func197.trans (congrArg some (by kernel_rfl))⟩
 f23:=⟨Tryz.f198.name,by decide,Tryz.func198.trans (congrArg some (by kernel_rfl))⟩
 f24:=⟨Tryz.f199.name,by decide,Tryz.func199.trans (congrArg some (by kernel_rfl))⟩
 f25:=⟨Tryz.f200.name,by decide,Tryz.func200.trans (congrArg some (by kernel_rfl))⟩
 f26:=⟨Tryz.f201.name,by decide,Tryz.func201.trans (congrArg some (by kernel_rfl))⟩
 f27:=⟨Tryz.f202.name,by decide,Tryz.func202.trans (congrArg some (by kernel_rfl))⟩
 f28:=Tryz.func173.trans (congrArg some (by kernel_rfl))
 f29:=Tryz.func174.trans (congrArg some (by kernel_rfl))
 f46:=⟨Tryz.f227.name,by decide,Tryz.func227.trans (congrArg some (by kernel_rfl))⟩
 f47:=Tryz.func209.trans (congrArg some (by kernel_rfl))
 f48:=Tryz.func210.trans (congrArg some (by kernel_rfl))
 f49:=⟨Tryz.f228.name,by decide,Tryz.func228.trans (congrArg some (by kernel_rfl))⟩
 f50:=⟨Tryz.f229.name,by decide,Tryz.func229.trans (congrArg some (by kernel_rfl))⟩
 f57:=⟨Tryz.f246.name,by decide,Tryz.func246.trans (congrArg some (by kernel_rfl))⟩
 t0:=Tryz.underlying0
 a0:=Tryz.isAgg0
 z0:=Tryz.sizeOf0
 v0:=Tryz.zeroValue0
 t3:=Tryz.underlying3
 a3:=Tryz.isAgg3
 z3:=Tryz.sizeOf3
 v3:=Tryz.zeroValue3
 t4:=Tryz.underlying4
 a4:=Tryz.isAgg4
 z4:=Tryz.sizeOf4
 v4:=Tryz.zeroValue4
 t5:=Tryz.underlying5
 a5:=Tryz.isAgg5
 z5:=Tryz.sizeOf5
 v5:=Tryz.zeroValue5
 t9:=Tryz.underlying9
 a9:=Tryz.isAgg9
 z9:=Tryz.sizeOf9
 v9:=Tryz.zeroValue9
 t22:=Tryz.underlying24
 a22:=Tryz.isAgg24
 z22:=Tryz.sizeOf24
 v22:=Tryz.zeroValue24
 t25:=Tryz.underlying202
 a25:=Tryz.isAgg202
 z25:=Tryz.sizeOf202
 v25:=Tryz.zeroValue202
 t39:=Tryz.underlying154
 a39:=Tryz.isAgg154
 z39:=Tryz.sizeOf154
 v39:=Tryz.zeroValue154
 t45:=Tryz.underlying244
 a45:=Tryz.isAgg244
 z45:=Tryz.sizeOf244
 v45:=Tryz.zeroValue244
 t46:=Tryz.underlying245
 a46:=Tryz.isAgg245
 z46:=Tryz.sizeOf245
 v46:=Tryz.zeroValue245
 t50:=Tryz.underlying151
 a50:=Tryz.isAgg151
 z50:=Tryz.sizeOf151
 v50:=Tryz.zeroValue151
 t53:=Tryz.underlying207
 a53:=Tryz.isAgg207
 z53:=Tryz.sizeOf207
 v53:=Tryz.zeroValue207
 t55:=Tryz.underlying210
 a55:=Tryz.isAgg210
 z55:=Tryz.sizeOf210
 v55:=Tryz.zeroValue210
 t66:=Tryz.underlying276
 a66:=Tryz.isAgg276
 z66:=Tryz.sizeOf276
 v66:=Tryz.zeroValue276
 t70:=Tryz.underlying280
 a70:=Tryz.isAgg280
 z70:=Tryz.sizeOf280
 v70:=Tryz.zeroValue280
 t76:=Tryz.underlying300
 a76:=Tryz.isAgg300
 z76:=Tryz.sizeOf300
 v76:=Tryz.zeroValue300
 t77:=Tryz.underlying301
 a77:=Tryz.isAgg301
 z77:=Tryz.sizeOf301
 v77:=Tryz.zeroValue301 }
end Go.Proofs
namespace Go.Proofs.YtbjmnlefkbhbdaaGreatDoor
open Go.RowKit Go.Shelf Go.Lib
open Go.Sort hiding Below
def cmpX (x y:C5):Int:=cmpE x.1.1 x.1.2.1 x.1.2.2.1 x.1.2.2.2 y.1.1 y.1.2.1 y.1.2.2.1 y.1.2.2.2
theorem cmpX_lt (x y:C5):ltOf cmpX x y=true↔ltE x y=true:=by
 unfold ltOf cmpX ltE;rw [decide_eq_true_eq,← Yd]
theorem cmpX_not (x y:C5):ltOf cmpX x y=false↔ltE x y=false:=by
 rw [← Bool.not_eq_true,cmpX_lt,Bool.not_eq_true]
theorem ltE_iff (x y:C5):ltE x y=true↔x.1.1<y.1.1∨(x.1.1=y.1.1∧(x.1.2.1<y.1.2.1∨(x.1.2.1=y.1.2.1∧(x.1.2.2.1<y.1.2.2.1∨(x.1.2.2.1=y.1.2.2.1∧x.1.2.2.2<y.1.2.2.2))))):=by
 have h:=Zy (x.1,0) (y.1,0);unfold ltC at h;unfold ltE;simp at h;rw [h]
theorem swoX:SWO (ltOf cmpX):={
 irrefl:=fun x=>by rw [cmpX_not,← Bool.not_eq_true,ltE_iff];omega
 trans:=fun x y z h1 h2=>by
  rw [cmpX_lt,ltE_iff] at *;omega
 ntrans:=fun x y z h1 h2=>by
  rw [cmpX_not,← Bool.not_eq_true,ltE_iff] at *;omega }
theorem compareX_gd (a b c d k p q r s l:Int) (w:World) :
  Cl 128 #[.agg #[I a,I b,I c,I d,I k],.agg #[I p,I q,I r,I s,I l]] w fun e w'=>e=.returned (I (cmpE a b c d p q r s))∧GD w w':=by
 go_enter Tryz.func128,Tryz.ntmps128;go_wp2_with (go_at_call 93;refine (Zg _ _ _ _ _ _ _ _ _).mono ?_;rintro e g ⟨rfl,hg⟩;have f:=Hd (Ys (Jl (Jl (Xz w))) hg);clear hg)
 go_ret;refine ⟨rfl, ?_⟩;with_reducible repeat' (first | exact f.out | refine Jl ?_ | refine Xp ?_)
theorem closureX_gd (x y:C5) (W:World):Cl 128 #[.agg (encC x).toArray,.agg (encC y).toArray] W fun e w'=>e=.returned (I (cmpX x y))∧∃ q os',w'=grow (W.drewN q) os':=compareX_gd _ _ _ _ _ _ _ _ _ _ W
theorem holdsX {w:World} {base g n c:Nat} {a:List C5} (h:w.ownsRow base 122 5 (.slice (Az g) n c) n (flatJ a)) (i:n=a.length):HoldsK encC 5 w g 0 a.toArray:=by
 subst i;intro j b;rw [size_flatK] at b;simp only [List.size_toArray] at b;rw [get_flatK _ _ _ _ (by simpa using b)];refine ⟨?_, ?_⟩
 ·have f:=h.cellAt j γ;rw [Nat.zero_add,f,flatJ_enc,flatC_at a j b];simp
 ·rcases h.2 with ⟨h1,_⟩ | ⟨k,d,e,h1,_,h3,_⟩
  ·cases h1
  ·cases h1;simp [World.frozen?,h3]
theorem sortCrease_any (w:World) (base o:Nat) (n:Option Addr) (a:List C5) (h:w.ownsRow base 122 5 (.slice n a.length o) a.length (flatJ a)) (C:a.length<4611686018427387904) :
  Cl 127 #[.slice n a.length o,.func (.func 128) #[] #[]] w fun e w'=>e=.returned (.tuple #[])∧∃ Bs',Bs'.Perm a∧Bs'.Pairwise (fun x y=>ltE y x=false)∧JRow w' n Bs'∧w.grownBy w' (Value.slice n a.length o).ownBlock:=by
 by_cases h0:a=[]
 ·subst h0;have p:=AnyF.slices_SortFunc_none Tryz.sortCrease n o (.func (.func 128) #[] #[]) w;refine p.mono ?_;rintro e w' ⟨rfl,rfl⟩;exact ⟨rfl,[],List.Perm.refl _,List.Pairwise.nil,fun i hi=>by simp at hi,⟨rfl,rfl,rfl,Nr _,fun _ _ _=>rfl⟩⟩
 ·have hpos:0<a.length:=List.length_pos_iff.2 h0
  obtain ⟨g,rfl⟩:∃ g,n=Az g:=by
   rcases h.2 with ⟨h1,h2⟩ | ⟨g,z,A,h1,_⟩
   ·omega
   ·cases h1;exact ⟨g,rfl⟩
  have s:=holdsX h rfl;have hg:g<w.heap.size:=(h.lt g rfl).2;have d:=AnyQ.slices_SortFunc Tryz.sortCrease 5 Tryz.isAgg122 Tryz.sizeOf122 encC (fun _=>rfl) (fun x v u=>by simp [encC] at u;rcases u with rfl | rfl | rfl | rfl | rfl <;> rfl) cmpX swoX 128 #[] g 0 o a.toArray w (enters_of Tryz.func128 μ rfl) (fun _ _ _ _ x y=>closureX_gd x y _) s hg (by simpa using C);change Cl 127 _ _ _ at d
  rw [List.size_toArray] at d;refine d.mono ?_;rintro e w' ⟨rfl,b,m,os,hp,hs,rfl⟩;have l:b.size=a.length:=by simpa using hp.1
  refine ⟨rfl,b.toList, ?_, ?_, ?_,Vf b⟩
  ·have h3:=hp.2.2
   have e1:(b.extract 0 a.length).toList=b.toList:=by
    rw [← l];simp
   have e2:(a.toArray.extract 0 a.length).toList=a:=ν;rw [e1,e2] at h3;exact h3
  ·rw [List.pairwise_iff_getElem];intro i j hi t q;have:=hs i j (Nat.zero_le _) q (by simpa [l] using t);rw [cmpX_not] at this;have k:i<b.size:=by simpa using hi
   have r:j<b.size:=by simpa using t
   rw [getElem!_pos b i k,getElem!_pos b j r] at this;simpa using this
  ·intro i hi;have k:i<b.size:=by simpa using hi
   have B:=holdsK_sortWorldK_c encC 5 w g 0 a.toArray b m os s hg (by simpa using l)
   have f:∀ c,c<5→(sortWorldK encC 5 w g 0 m b os).cell? ⟨g,i*5+c,none⟩=some ((encC b.toList[i])[c]!):=fun c p=>by
    have:=(B.cell k p).1;rw [Nat.zero_add] at this;rw [this,getElem!_pos b i k];simp
   exact ⟨g,rfl,f 0 γ,f 1 γ,f 2 γ,f 3 γ,f 4 γ⟩
end Go.Proofs.YtbjmnlefkbhbdaaGreatDoor
namespace Go.Proofs.YtbjmnlefkbhbdaaGreatDoor
open Go.RowKit
theorem cloneI_own (w:World) (a:Option Addr) (c:Nat) (zs:List Int) (h:Row w a zs) (h1:zs.length≤17592186044416) (i:a=none∨∃ b off,a=Ad b off) :
  Cl 96 #[.slice a zs.length c] w fun e w'=>∃ d f,e=.returned (.slice d zs.length f)∧w'.ownsRow w.heap.size 3 1 (.slice d zs.length f) zs.length (zs.map (Value.int .i64))∧Bl w w':=by
 rcases i with rfl | ⟨b,off,rfl⟩
 ·have:=Vw h;subst this;refine (Zs w c).mono ?_;rintro e w' ⟨rfl,rfl⟩;exact ⟨none,0,rfl,by simpa using World.ownsRow_nil _ _ _ _,Qd _⟩
 ·refine (clone_ints w b off zs.length c (zs.map (fun z=>I z)) ν (Zu h) (Ue zs) γ).mono ?_;rintro e w' ⟨v,rfl,g,hb⟩;obtain ⟨d,f,rfl,_⟩:=Qt g;exact ⟨d,f,rfl,g,hb⟩
theorem cloneC_own (w:World) (a:Option Addr) (n c:Nat) (d:List Int) (j:Row w a d) (k:d.length=n*5) (h1:n≤3518437208883) (m:a=none∨∃ b off,a=Ad b off) :
  Cl 97 #[.slice a n c] w fun e w'=>∃ f g,e=.returned (.slice f n g)∧w'.ownsRow w.heap.size 122 5 (.slice f n g) n (d.map (Value.int .i64))∧Bl w w':=by
 rcases m with rfl | ⟨b,off,rfl⟩
 ·have h:=Vw j;subst h;have i:n=0:=by simp at k;omega
  subst i;refine (Yp w c).mono ?_;rintro e w' ⟨rfl,rfl⟩;exact ⟨none,0,rfl,by simpa using World.ownsRow_nil _ _ _ _,Qd _⟩
 ·refine (Vh w b off n c (d.map (fun z=>I z)) (by simp [k]) (Zu j) (Ue d) γ).mono ?_;rintro e w' ⟨v,rfl,l,hb⟩;obtain ⟨f,g,rfl,_⟩:=Qt l;exact ⟨f,g,rfl,l,hb⟩
def CopyOwn (w w':World) (W H:Int) (n:Nat) (zs ks:List Int) (e:Ending):Prop := ∃ a ca b cb,e=.returned (.agg #[I W,I H,.slice a zs.length ca,.slice b n cb])∧w'.ownsRow w.heap.size 3 1 (.slice a zs.length ca) zs.length (zs.map (Value.int .i64))∧w'.ownsRow w.heap.size 122 5 (.slice b n cb) n (ks.map (Value.int .i64))∧Bl w w'
theorem copy_own (W H:Int) (a b:Option Addr) (s t n:Nat) (zs l:List Int) (w:World) (F:Row w a zs) (E:Row w b l) (K:l.length=n*5) (h1:zs.length≤17592186044416) (h2:n≤3518437208883) (D:a=none∨∃ p off,a=Ad p off) (hb:b=none∨∃ p off,b=Ad p off) :
  Cl 65 #[.agg #[I W,I H,.slice a zs.length s,.slice b n t]] w fun e w'=>CopyOwn w w' W H n zs l e:=by
 have z:=Hd (fun (V:World) hV=>cloneI_own V a s zs (F.kept hV) h1 D);have J:=Hd (fun (V:World) hV=>cloneC_own V b n t l (E.kept hV) K h2 hb);clear F E D hb;obtain ⟨m,x⟩:∃ m,m=zs.length:=⟨_,rfl⟩;rw [← x] at z ⊢;have A:=Hd x;clear x;go_enter Tryz.func65,Tryz.ntmps65;go_upto_region 1 with fail
 refine Qj (fun B hW0=>?_);have c:Hid (CPW w B (I W) (I H) (.slice a m s) (.slice b n t)):=by rw [hW0];exact CPW.new w W H _ _
 have k:w.heap.size+1<B.heap.size:=c.out.2.2.1.lt;clear hW0;obtain ⟨P,Q,R,T⟩:=c.out.1;go_cut [] (fun y=>∃ a' ca' b' cb',CPW w y (I W) (I H) (.slice a' m ca') (.slice b' n cb')∧y.ownsRow (w.heap.size+1+1) 3 1 (.slice a' m ca') m (zs.map (Value.int .i64))∧y.ownsRow (w.heap.size+1+1) 122 5 (.slice b' n cb') n (l.map (Value.int .i64)))
 case first =>
  go_region_with (first
   | (go_at_call 96;refine (z.out _ (by first | exact f.2.2.2.2 | exact Qe c.out.2.2.2.2)).mono ?_;rintro e w1 ⟨a1,k1,rfl,g,i⟩;have d:CPW w w1 (I W) (I H) (.slice a m s) (.slice b n t):=(by first | exact CPW.kept f i | exact CPW.kept (c.out.kept (Qe (Qd _))) i);have o:Hid (w1.ownsRow (w.heap.size+1+1) 3 1 (.slice a1 m k1) m (zs.map (Value.int .i64))):=(Jo g (by first | exact f.2.2.1.lt | exact k));obtain ⟨U,X,Y,Z⟩:=d.1;obtain ⟨_,_,L,M,_,_⟩:=d.2.1;have pz:=d.1.lt;clear g)
   | (go_at_call 97;refine (J.out _ (by first | exact d.2.2.2.2 | exact Qe c.out.2.2.2.2)).mono ?_;rintro e G ⟨r,k2,rfl,h,j⟩;have f:CPW w G (I W) (I H) (.slice a m s) (.slice b n t):=(by first | exact CPW.kept d j | exact CPW.kept (c.out.kept (Qe (Qd _))) j);have q:Hid (G.ownsRow (w.heap.size+1+1) 122 5 (.slice r n k2) n (l.map (Value.int .i64))):=(Jo h (by first | exact d.2.2.1.lt | exact k));obtain ⟨q0,q1,q2,q3⟩:=f.1;obtain ⟨_,_,N,O,_,_⟩:=f.2.1;have qz:=f.1.lt;clear h))
  all_goals
   go_wp2;go_meet
   case rel =>
    refine ⟨a1,k1,r,k2, ?_, ?_, ?_⟩
    ·first | exact f.set _ _ | exact d.set _ _
    ·first | exact Qx (Qx (Qh o.out j) γ) γ | exact Qx (Qx o.out γ) γ
    ·first | exact Qx (Qx (Qh q.out i) γ) γ | exact Qx (Qx q.out γ) γ
 case rest =>
  clear P Q R T c k;obtain ⟨a1,k1,r,k2,C,g,h⟩:=hcut;have u:=H3 C g h;obtain ⟨⟨c0,c1,c2,c3⟩,_,⟨d0,d1,d2,d3⟩,⟨g0,g1,g2,g3,_,_⟩,_⟩:=C;have z0:=Bt c0;have z1:=Bt d0;clear g h;go_wp2;refine bodyPost_ret (v:=.agg #[I W,I H,.slice a1 m k1,.slice r n k2]) (by simp [results,Tryz.results65,go_sem,d0,d1,d2,d3]) rfl ⟨a1,k1,r,k2,by rw [A.out], ?_, ?_, ?_⟩
  ·refine Jo (b1:=w.heap.size+1+1) ?_ γ;refine Qx ?_ γ;refine Qx ?_ γ;refine Qx ?_ γ;refine Qx ?_ γ;rw [← A.out];exact u.out.2.1
  ·refine Jo (b1:=w.heap.size+1+1) ?_ γ;refine Qx ?_ γ;refine Qx ?_ γ;refine Qx ?_ γ;refine Qx ?_ γ;exact u.out.2.2
  ·with_reducible repeat (first | exact u.out.1.2.2.2.2 | refine Qk ?_ ?_)
   all_goals (first | omega | (dsimp only;omega))
open Go.ChangeMaps
theorem SB4.set2 {w:World} {b:Nat} {a c f d v:Value} (h:SB4 w b a c f d):SB4 (w.setCell ⟨b,2,none⟩ v) b a c v d:=by
 obtain ⟨⟨a0,a1,e,a3⟩,f0,f1,f2,f3⟩:=h;exact ⟨⟨by simp [go_sem,a0],by simp [go_sem,a1],by simp [go_sem,e],by simp [go_sem,a3]⟩,by simpa [go_sem] using f0,by simpa [go_sem] using f1,by simpa [go_sem] using f2,by simpa [go_sem] using f3⟩
def f15 (i:Nat):List Value:=(List.replicate i (15:Int)).map (Value.int .i64)
theorem f15_one (i:Nat):f15 (i+1)=f15 i ++ [I 15]:=by simp [f15,List.replicate_succ']
end Go.Proofs.YtbjmnlefkbhbdaaGreatDoor
