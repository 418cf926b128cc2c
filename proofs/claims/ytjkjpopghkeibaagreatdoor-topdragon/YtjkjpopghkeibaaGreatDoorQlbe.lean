/- A part of it. -/
import Derived.Test.YtjkjpopghkeibaaGreatDoorQlav
set_option maxRecDepth 100000
set_option maxHeartbeats 40000000
namespace Go.Proofs.YtjkjpopghkeibaaGreatDoor
open Go.RowKit Go.Shelf Go.ChangeMaps
variable {w w':World} {base g k n:Nat} {pl:List T3} {a:Option Addr} {v:Value} {M:Nat→M6}
def Upw (h:Nat→Int) (R:List Nat):Prop:=R.Pairwise (fun a b=>¬ h b<h a)
def plcA (pl:List T3) (k:Nat):Int×Int×Int:=pl.getD k (0,0,0)
def NW (w:World) (g:Nat) (R:List Nat):Prop := ∀ i (h:i<R.length),At w g i (I ((R[i]:Nat):Int))∧Fn w g i
theorem NW.kept {R:List Nat} (h:NW w g R) (hb:Bl w w'):NW w' g R:=fun i hi=>by
 obtain ⟨h1,h2⟩:=h i hi;exact ⟨Qa hb h1,(hb.frozen (bk h1)).trans h2⟩
theorem NW.grown {R:List Nat} {row:Option Nat} (h:NW w g R) (hg:w.grownBy w' row) (b:some g≠row):NW w' g R:=fun i hi=>by
 obtain ⟨h1,h2⟩:=h i hi;exact ⟨hg.cell h1 b,(Fo (a:=⟨g,i,none⟩) (hg.block g (bk h1) b)).trans h2⟩
def SortsN (w:World) (N:Nat) (rv:Value) (h:Nat→Int):Prop := ∀ (W:World) (g cap:Nat) (R:List Nat),Bl w W→w.heap.size≤g→R≠[]→R.length≤300→(∀ j∈R,j<N)→NW W g R →
 Cl 66 #[.slice (Az g) R.length cap,.func (.func 67) #[rv] #[]] W fun e w'=>e=.returned (.tuple #[])∧∃ R':List Nat,R'.Perm R∧Upw h R'∧NW w' g R'∧W.grownBy w' (some g)
def Gk (pl:List T3) (e:T3):List Nat:=(List.range pl.length).filter fun k=>decide (pl.getD k (0,0,0)=e)
theorem Gn_eq (pl:List T3):∀ i e,Gn pl i e=((List.range i).filter fun k=>decide (pl.getD k (0,0,0)=e)).map (fun k:Nat=>(k:Int))
 | 0,e=>by simp [Gn]
 | i+1,e=>by
  unfold Gn;rw [List.range_succ,List.filter_append,List.map_append,← Gn_eq pl i e];by_cases q:e=pl.getD i (0,0,0)
  ·rw [if_pos q,← q];simp [q]
  ·rw [if_neg q];have a:¬ pl.getD i (0,0,0)=e:=fun h=>q h.symm;simp only [List.filter_cons,List.filter_nil,a,decide_false,Bool.false_eq_true,if_false,List.map_nil,List.append_nil]
theorem Qak {e:T3}:k∈Gk pl e↔k<pl.length∧pl.getD k (0,0,0)=e:=by
 unfold Gk;rw [List.mem_filter,List.mem_range,decide_eq_true_eq]
theorem Gk_len (pl:List T3) (e:T3):(Gk pl e).length≤pl.length:=by
 have:=List.length_filter_le (fun k=>decide (pl.getD k (0,0,0)=e)) (List.range pl.length);rw [List.length_range] at this;exact this
theorem Gk_nodup (pl:List T3) (e:T3):(Gk pl e).Nodup:=List.Pairwise.filter _ List.nodup_range
theorem own_nw {c:Nat} {e:T3} (h:w.ownsRow base 3 1 (.slice (some ⟨g,0,none⟩) (Gn pl pl.length e).length c) (Gn pl pl.length e).length ((Gn pl pl.length e).map (Value.int .i64))):NW w g (Gk pl e):=fun i hi=>by
 have hl:(Gn pl pl.length e).length=(Gk pl e).length:=by (try simp only [At,I,Fn,Az,Ad]);rw [Gn_eq,List.length_map];rfl
 have d:=h.cellAt i γ;have e1:(Gn pl pl.length e)=(Gk pl e).map (fun k:Nat=>(k:Int)):=Gn_eq pl pl.length e;refine ⟨?_, ?_⟩
 ·(try simp only [At,I]);rw [d,e1]
  simp [hi]
 ·rcases h.2 with ⟨h1,_⟩ | ⟨f,a,b,h1,_,h3,_⟩
  ·cases h1
  ·cases h1;simp [World.frozen?,h3]
theorem inf98:(Tryz.prog.info? 73).map (fun i=>(i.zero,i.size,i.bytes))=some (some (.agg #[I 0,I 0,I 0,SN]),4,48):=η
theorem cell_four (w:World) (a b c d:Value) (T:TypeId):∀ j u,([a,b,c,d])[j]?=some u→(w.alloc (.cells #[a,b,c,d] T)).cell? ((⟨w.heap.size,0,none⟩:Addr).add j)=some u:=by
 intro j u e;match j,e with
 | 0,e=>simp at e;subst e;simp [Addr.add,go_sem]
 | 1,e=>simp at e;subst e;simp [Addr.add,go_sem]
 | 2,e=>simp at e;subst e;simp [Addr.add,go_sem]
 | 3,e=>simp at e;subst e;simp [Addr.add,go_sem]
structure Far (wA:World) (z g:Nat) (S:List (T3×Nat×Nat)):Prop where
 lt:g<z
 s:∀ s∈S,s.2.1<z∧wA.heap.size≤s.2.1∧s.2.1≠g
 far:S.Pairwise (fun x y=>x.2.1≠y.2.1)
theorem Far.ne {c:World} {z:Nat} {S:List (T3×Nat×Nat)} (h:Far c z g S) {i:Nat} (hi:i<S.length) (a:k<S.length) (b:i≠k):S[i].2.1≠S[k].2.1:=by
 have hp:=List.pairwise_iff_getElem.1 h.far;rcases Nat.lt_or_ge i k with q | q
 ·exact hp i k hi a q
 ·exact (hp k i a hi γ).symm
structure STW (wA wx:World) (z g:Nat) (v:Value) (L pl:List T3) (h:Nat→Int) (S:List (T3×Nat×Nat)) (k:Nat) (H:List (T3×List Nat)) (R:List (T3×Value)):Prop where
 row:∀ i (hi:i<S.length),At wx g i (.slice (Az (S[i].2.1)) (Gk pl S[i].1).length S[i].2.2)
 left:∀ i (hi:i<S.length),k≤i→NW wx S[i].2.1 (Gk pl S[i].1)
 own:wx.ownsRow z 73 4 v R.length (rowS R)
 len:R.length=k∧H.length=k
 tris:∀ i (hi:i<R.length) (hj:i<H.length),R[i].1=H[i].1∧TrisAt wx R[i].2 (tgn L H[i].2)
 off:∀ s∈R,∀ q,s.2.ownBlock=some q→z≤q∧q<wx.heap.size∧v.ownBlock≠some q
 done:∀ i (hi:i<H.length) (hj:i<S.length),H[i].1=S[i].1∧H[i].2.Perm (Gk pl S[i].1)∧Upw h H[i].2
 b:Bl wA wx
 zz:z≤wx.heap.size
theorem STW.next {y A x w8 t:World} {z m B n8 c8:Nat} {p:Option Addr} {o:Obj} {L:List T3} {M:Nat→Int} {S:List (T3×Nat×Nat)} {H:List (T3×List Nat)} {R:List (T3×Value)} {l:List Nat} (h:STW y A z g v L pl M S k H R) (X:k<S.length) (G:Far y z g S) (a7:y.heap.size≤z)
  (d:A.grownBy x (some S[k].2.1)) (hp:l.Perm (Gk pl S[k].1)) (hs:Upw M l) (U:Bl x w8) (Y:TRow w8 p (tgn L l)) (O:n8=(tgn L l).length) (V:∀ q,p=Az q→x.heap.size≤q∧q<w8.heap.size)
  (c:(w8.alloc o).grownBy t v.ownBlock) (n:t.ownsRow z 73 4 (.slice (Az m) (R.length+1) B) (R.length+1) (rowS R ++ [I S[k].1.1,I S[k].1.2.1,I S[k].1.2.2,.slice p n8 c8])) (D:v.ownBlock=some m∨m=w8.heap.size+1) (f:l≠[]) :
  STW y t z g (.slice (Az m) (R.length+1) B) L pl M S (k+1) (H ++ [(S[k].1,l)]) (R ++ [(S[k].1,.slice p n8 c8)]):=by
 have z2:A.heap.size≤x.heap.size:=d.size;have z8:=U.size;have z3:=c.size;have zz:=h.zz;rw [World.size_alloc] at z3;have j:∀ q,v.ownBlock=some q→z≤q∧q<A.heap.size:=fun q e=>h.own.lt q e;have C:=G.s S[k] (Lm X);have J:Bl x (w8.alloc o):=Qb U;
 have E:∀ b q u,b<z→b≠S[k].2.1→At A b q u→At t b q u:=fun b q u hb f hc =>
  c.cell (Qa J (d.cell hc (by simpa using f))) (fun e=>by have:=(j _ e.symm).1;dsimp only at this;omega)
 have N:∀ b K,b<z→b≠S[k].2.1→NW A b K→NW t b K:=fun b K hb f hN =>
  ((hN.grown d (by simpa using f)).kept J).grown c (fun e=>by have:=(j _ e.symm).1;omega)
 refine ⟨fun i hi=>E _ _ _ G.lt C.2.2.symm (h.row i hi),fun i hi a6=>?_, ?_,⟨by simp [h.len.1],by simp [h.len.2]⟩,fun i hi W=>?_,fun s hs q hq=>?_,fun i hi W=>?_, ?_,γ⟩
 ·exact N _ _ (G.s _ (Lm hi)).1 (G.ne hi X γ) (h.left i hi γ)
 ·rw [List.length_append,rowS_add];exact n
 ·by_cases q:i<R.length
  ·have Z:i<H.length:=by rw [h.len.2,← h.len.1];exact q
   obtain ⟨t1,t2⟩:=h.tris i q Z;rw [List.getElem_append_left q,List.getElem_append_left Z];refine ⟨t1, ?_⟩;have o1:=h.off R[i] (Lm q)
   have t3:=t2.grown d (fun b e=>by
    have:=(o1 b e).1;intro e2;simp at e2;omega)
   exact (t3.kept J).grown c (fun b e e2=>(o1 b e).2.2 e2.symm)
  ·have P:i=R.length:=by rw [List.length_append,List.length_singleton] at hi;omega
   have q4:i=H.length:=by rw [P,h.len.1,h.len.2]
   have e1:(R ++ [(S[k].1,Value.slice p n8 c8)])[i]=(S[k].1,Value.slice p n8 c8):=by
    rw [List.getElem_append_right γ];simp
   have e2:(H ++ [(S[k].1,l)])[i]=(S[k].1,l):=by
    rw [List.getElem_append_right γ];simp
   rw [e1,e2];refine ⟨rfl,p,c8,by rw [O], ?_⟩;refine (Y.kept β1).grownN c (fun b e e3=>?_);have f1:=(V b e).1;have f2:=(j b e3.symm).2;omega
 ·have a2:z≤m∧m<t.heap.size:=n.lt m rfl;rcases List.mem_append.1 hs with hs | hs
  ·obtain ⟨o1,o2,o3⟩:=h.off s hs q hq;refine ⟨o1,γ,fun e=>?_⟩;simp only [Value.ownBlock,Option.some.injEq] at e;rcases D with F | F
   ·exact o3 (by rw [F,e])
   ·omega
  ·simp at hs;subst hs;obtain ⟨q8,T,_⟩:=Y 0 (by simpa [tgn] using List.length_pos_iff.2 f);obtain ⟨f1,f2⟩:=V q8 T;rw [T] at hq;simp only [Value.ownBlock,Option.some.injEq] at hq ⊢;subst hq;refine ⟨γ,γ,fun e=>?_⟩;have e9:m=q8:=by simpa using e
   rcases D with F | F
   ·have:=(j m F).2;omega
   ·omega
 ·by_cases q:i<H.length
  ·rw [List.getElem_append_left q];exact h.done i q W
  ·have P:i=H.length:=by rw [List.length_append,List.length_singleton] at hi;omega
   have e2:(H ++ [(S[k].1,l)])[i]=(S[k].1,l):=by
    rw [List.getElem_append_right γ];simp
   have q4:i=k:=by rw [P,h.len.2]
   rw [e2];subst q4;exact ⟨rfl,hp,hs⟩
 ·have b2:Bl y x:=h.b.grown d h.b.size (fun r e=>by cases e;exact C.2.1);have Q:Bl y (w8.alloc o):=b2.trans (J.mono b2.size);exact Q.grown c Q.size (fun r e=>by have:=(j r e).1;omega)
structure Ordr (w:World) (bh bf gh oh ch gf of_ cf:Nat) (hs:List Int) (fs:List Nat):Prop where
 h:At w bh 0 (.slice (Ad gh oh) hs.length ch)
 f:At w bf 0 (.slice (Ad gf of_) fs.length cf)
 hr:Row w (Ad gh oh) hs
 fr:NRow w gf of_ fs
theorem Ordr.kept {d c j gf a e:Nat} {hs:List Int} {i:List Nat} (o:Ordr w d c j k g gf a e hs i) (b:Bl w w'):Ordr w' d c j k g gf a e hs i:=⟨Qa b o.h,Qa b o.f,o.hr.kept b,o.fr.kept b⟩
def hgt (hs:List Int) (fs:List Nat) (a:Nat):Int:=hs.getD (fs.getD a 0) 0
theorem row_get {o:Nat} {hs:List Int} (h:Row w (some ⟨g,o,none⟩) hs) {i:Nat} (hi:i<hs.length):w.cell? ⟨g,o+i,none⟩=some (I (hs.getD i 0)):=by
 obtain ⟨b,off,e,a⟩:=h i hi
 cases e;(try simp only [I]);rw [a,List.getD_eq_getElem?_getD,List.getElem?_eq_getElem hi]
 rfl
theorem above_any (w:World) (q p J M H gf m G a b:Nat) (hs:List Int) (c:List Nat) (o:Ordr w q p J M H gf m G hs c) (g:a<c.length) (i:b<c.length) (k:∀ j∈c,j<hs.length) (_h1:c.length≤300) (_h2:hs.length≤300) :
  Rt 22 #[I (a:Int),I (b:Int),.pointer (Az q),.pointer (Az p)] w (.bool (decide (hgt hs c b<hgt hs c a))):=by
 have D:=o.h;have E:=o.f;have n:=o.fr a g;have F:=o.fr b i;have B:=k c[a] (Lm g);have C:=k c[b] (Lm i);have d:=row_get o.hr B;have e:=row_get o.hr C
 have r:hgt hs c a=hs.getD c[a] 0:=by
  unfold hgt;rw [List.getD_eq_getElem?_getD (l:=c),List.getElem?_eq_getElem g];rfl
 have s:hgt hs c b=hs.getD c[b] 0:=by
  unfold hgt;rw [List.getD_eq_getElem?_getD (l:=c),List.getElem?_eq_getElem i];rfl
 rw [r,s];obtain ⟨x,z⟩:∃ x,x=c[a]:=⟨_,rfl⟩;obtain ⟨y,A⟩:∃ y,y=c[b]:=⟨_,rfl⟩;rw [← z] at n B d ⊢;rw [← A] at F C e ⊢;obtain ⟨u,t⟩:∃ u,u=hs.getD x 0:=⟨_,rfl⟩;obtain ⟨v,hv⟩:∃ v,v=hs.getD y 0:=⟨_,rfl⟩;rw [← t] at d ⊢;rw [← hv] at e ⊢;have N:(a:Int)<(c.length:Int):=γ;have O:(b:Int)<(c.length:Int):=γ;have P:(x:Int)<(hs.length:Int):=γ;have Q:(y:Int)<(hs.length:Int):=γ;have k1:(0:Int)≤(a:Int):=γ;have k2:(0:Int)≤(b:Int):=γ;have k3:(0:Int)≤(x:Int):=γ;have R:(0:Int)≤(y:Int):=γ;have z0:=Bt D;have z1:=Bt E;have z2:=Bt n;have z3:=Bt d;clear o k z A t hv r s;go_enter Tryz.func22,Tryz.ntmps22;go_wp2;obtain ⟨K,L⟩:=kcn w;refine wk ?_;repeat (go_big_quiet_step (fail))
 refine kq1 (fun T hq=>?_);clear K L D E n F d e;go_wp2;go_ret;exact ⟨rfl,hq⟩
def cmpN (hs:List Int) (fs:List Nat) (a b:Nat):Int:=if hgt hs fs a<hgt hs fs b then -1 else if hgt hs fs b<hgt hs fs a then 1 else 0
theorem orderCompare_any (w:World) (s n x B v gf k u a b:Nat) (hs:List Int) (c:List Nat) (o:Ordr w s n x B v gf k u hs c) (y:a<c.length) (z:b<c.length) (A:∀ j∈c,j<hs.length) (h1:c.length≤300) (h2:hs.length≤300) :
  Rt 67 #[.func (.func 22) #[] #[.pointer (Az s),.pointer (Az n)],I (a:Int),I (b:Int)] w (I (cmpN hs c a b)):=by
 have l:=Hd (fun (W:World) hW=>above_any W s n x B v gf k u b a hs c (o.kept hW) z y A h1 h2);have t:=Hd (fun (W:World) hW=>above_any W s n x B v gf k u a b hs c (o.kept hW) y z A h1 h2)
 have h:Hid (cmpN hs c a b=if decide (hgt hs c a<hgt hs c b)=true then -1 else if decide (hgt hs c b<hgt hs c a)=true then 1 else 0):=by
  have:cmpN hs c a b=if decide (hgt hs c a<hgt hs c b)=true then -1 else if decide (hgt hs c b<hgt hs c a)=true then 1 else 0:=by simp [cmpN]
  exact this
 obtain ⟨r,hr⟩:∃ r,r=cmpN hs c a b:=⟨_,rfl⟩;obtain ⟨p,hp⟩:∃ p,p=decide (hgt hs c a<hgt hs c b):=⟨_,rfl⟩;obtain ⟨q,hq⟩:∃ q,q=decide (hgt hs c b<hgt hs c a):=⟨_,rfl⟩;rw [← hp] at l h;rw [← hq] at t h;rw [← hr] at h ⊢;clear hp hq hr o A y z h1 h2
 cases p
 ·cases q
  ·have m:=Hd h.out;clear h;go_enter Tryz.func67,Tryz.ntmps67
   go_wp2_with (first
    | (go_at_call 22;refine (l.out _ (Qe _)).mono ?_;rintro e w1 ⟨rfl,d⟩;have f:=Hd d;clear d l)
    | (go_at_call 22;refine (t.out _ f.out).mono ?_;rintro e C ⟨rfl,g⟩;have i:=Hd (Qc f.out g);clear g))
   go_ret;exact ⟨Jp m.out.symm,i.out⟩
  ·have m:=Hd h.out;clear h;go_enter Tryz.func67,Tryz.ntmps67
   go_wp2_with (first
    | (go_at_call 22;refine (l.out _ (Qe _)).mono ?_;rintro e w1 ⟨rfl,d⟩;have f:=Hd d;clear d l)
    | (go_at_call 22;refine (t.out _ f.out).mono ?_;rintro e C ⟨rfl,g⟩;have i:=Hd (Qc f.out g);clear g))
   go_ret;exact ⟨Jp m.out.symm,i.out⟩
 ·have m:=Hd h.out;clear h;go_enter Tryz.func67,Tryz.ntmps67;go_wp2_with (go_at_call 22;refine (l.out _ (Qe _)).mono ?_;rintro e w1 ⟨rfl,d⟩;have f:=Hd d;clear d)
  go_ret;exact ⟨Jp m.out.symm,f.out⟩
theorem four_one (a b c:Int) (d:Option Addr) (n m:Nat):∀ u ∈ [I a,I b,I c,.slice d n m],u.oneCell'=true:=by
 intro u e;simp at e;rcases e with rfl | rfl | rfl | rfl <;> rfl
theorem heap_of {_L:List T3} {h:Nat→Int} {S:List (T3×Nat×Nat)} {H:List (T3×List Nat)} (hl:H.length=S.length) (g:∀ i (hi:i<H.length) (c:i<S.length),H[i].1=S[i].1∧H[i].2.Perm (Gk pl S[i].1)∧Upw h H[i].2) (q:S.Pairwise (fun x y=>ltT x.1 y.1)) (p:∀ s∈S,Gk pl s.1≠[]) (l:∀ k,k<pl.length→∃ s∈S,s.1=pl.getD k (0,0,0)) (f:∀ i j,i<pl.length→j<pl.length→pl.getD i (0,0,0)=pl.getD j (0,0,0)→i≠j→h i≠h j) :
  Heap pl.length (plcA pl) h H:=by
 refine ⟨?_, ?_, ?_⟩
 ·rw [List.pairwise_iff_getElem];intro i j hi c m;have hp:=List.pairwise_iff_getElem.1 q i j γ γ m;rw [(g i hi γ).1,(g j c γ).1];exact hp
 ·intro s hs;obtain ⟨i,hi,rfl⟩:=List.getElem_of_mem hs;obtain ⟨e1,e2,e3⟩:=g i hi γ
  have n:∀ j∈H[i].2,j<pl.length∧pl.getD j (0,0,0)=H[i].1:=fun j c=>by
   rw [e1];exact Qak.1 (e2.mem_iff.1 c)
  refine ⟨fun e=>?_, ?_,n⟩
  ·rw [e] at e2;exact p S[i] (Lm _) e2.symm.eq_nil
  ·have o:H[i].2.Nodup:=e2.nodup_iff.2 (Gk_nodup _ _);refine (e3.and o).imp_of_mem (fun {a b} l hb d=>?_);have h1:=n a l;have h2:=n b hb;have:=f a b h1.1 h2.1 (by rw [h1.2,h2.2]) d.2;have:=d.1;omega
 ·intro j c;obtain ⟨s,hs,e⟩:=l j c;obtain ⟨i,hi,rfl⟩:=List.getElem_of_mem hs;refine ⟨H[i],Lm γ, ?_⟩;exact (g i γ hi).2.1.mem_iff.2 (Qak.2 ⟨c,e.symm⟩)
def SRowF (w:World) (base:Nat) (a:Option Addr) (S:List (T3×List T3)):Prop :=
 ∀ i (h:i<S.length),∃ g sa sc,a=Az g∧base≤g∧At w g (i*4) (I S[i].1.1)∧At w g (i*4+1) (I S[i].1.2.1)∧At w g (i*4+2) (I S[i].1.2.2)∧At w g (i*4+3) (.slice sa S[i].2.length sc)∧TRow w sa S[i].2∧∀ q,sa=Az q→base≤q
theorem SRowF.row {S:List (T3×List T3)} (h:SRowF w base a S):SRow w a S:=fun i hi=>by
 obtain ⟨g,c,d,e,_,c0,c1,c2,c3,b,_⟩:=h i hi;exact ⟨g,c,d,e,c0,c1,c2,c3,b⟩
theorem SRowF.kept {S:List (T3×List T3)} (h:SRowF w base a S) (hb:Bl w w'):SRowF w' base a S:=fun i hi=>by
 obtain ⟨g,c,d,e,hl,c0,c1,c2,c3,b,hq⟩:=h i hi;exact ⟨g,c,d,e,hl,Qa hb c0,Qa hb c1,Qa hb c2,Qa hb c3,b.kept hb,hq⟩
theorem SRowF.low {base':Nat} {S:List (T3×List T3)} (h:SRowF w base a S) (hl:base'≤base):SRowF w base' a S:=fun i hi=>by
 obtain ⟨g,c,d,e,h1,c0,c1,c2,c3,b,hq⟩:=h i hi;exact ⟨g,c,d,e,γ,c0,c1,c2,c3,b,fun q e=>by have:=hq q e;omega⟩
theorem SRowF.set {S:List (T3×List T3)} (h:SRowF w base a S) {p:Addr} {u:Value} (hp:p.block<base):SRowF (w.setCell p u) base a S:=fun i hi=>by
 obtain ⟨g,c,d,e,h1,c0,c1,c2,c3,b,hq⟩:=h i hi;exact ⟨g,c,d,e,h1,Qo c0 θ,Qo c1 θ,Qo c2 θ,Qo c3 θ,b.far (fun q e=>by have:=hq q e;omega),hq⟩
theorem srow_of {L:List T3} {H:List (T3×List Nat)} {R:List (T3×Value)} (d:w.ownsRow base 73 4 v R.length (rowS R)) (hl:R.length=H.length) (l:∀ i (hi:i<R.length) (m:i<H.length),R[i].1=H[i].1∧TrisAt w R[i].2 (tgn L H[i].2)) (k:∀ s∈R,∀ q,s.2.ownBlock=some q→base≤q):∃ a c,v=.slice a H.length c∧SRowF w base a (H.map fun s=>(s.1,tgn L s.2)):=by
 rcases d.2 with ⟨rfl,h0⟩ | ⟨g,e,j,rfl,f,_⟩
 ·refine ⟨none,0,by (try simp only [At,I,Fn,Az,Ad]);rw [← hl,h0],fun i hi=>?_⟩;(try simp only [At,I,Fn,Az,Ad] at hi);rw [List.length_map] at hi
  omega
 ·refine ⟨some ⟨g,0,none⟩,e,by (try simp only [At,I,Fn,Az,Ad]);rw [hl],fun i hi=>?_⟩;have h:i<H.length:=by simpa using hi
  have b:i<R.length:=γ;obtain ⟨e1,a,c,e2,e3⟩:=l i b h;obtain ⟨r0,r1,r2,r3⟩:=Qbk R i b;(try simp only [At,I,Az]);rw [List.getElem_map]
  refine ⟨g,a,c,rfl,f, ?_, ?_, ?_, ?_,e3,fun q eq=>k R[i] (Lm b) q (by (try simp only [At,I,Fn,Az,Ad]);rw [e2,eq];rfl)⟩
  ·(try simp only);rw [d.cellAt (i*4) γ,r0,e1]
  ·(try simp only);rw [d.cellAt (i*4+1) γ,r1,e1]
  ·(try simp only);rw [d.cellAt (i*4+2) γ,r2,e1]
  ·(try simp only);rw [d.cellAt (i*4+3) γ,r3,e2]
theorem stacks_any (w:World) (G pa:Option Addr) (J N O M K pc:Nat) (L pl:List T3) (rv:Value) (h:Nat→Int) (hl:pl.length=L.length) (hT:TRow w G L) (hP:TRow w pa pl) (h0:0<L.length) (hn:L.length≤300) (hS:∀ W,Bl w W→SortsN W L.length rv h) (a6:∀ i j,i<pl.length→j<pl.length→pl.getD i (0,0,0)=pl.getD j (0,0,0)→i≠j→h i≠h j) :
  Cl 54 #[pileV G L.length J N O M K pa pc,rv] w fun e w'=>∃ a c H,e=.returned (.slice a H.length c)∧Heap L.length (plcA pl) h H∧SRowF w' w.heap.size a (H.map fun s=>(s.1,tgn L s.2))∧Bl w w':=by
 obtain ⟨n,a2⟩:∃ n,n=L.length:=⟨_,rfl⟩;unfold pileV;rw [← a2];have Y:Hid (n=L.length∧pl.length=n):=⟨a2,γ⟩;have ae:Bl w (w.alloc (.cells #[.slice G n J,.map (some N),.map (some O),.slice (Az M) n K,.slice pa n pc] 61)):=Qb (Qe _);have ap:=hS _ ae
 have CP:Hid (Cl 72 #[.agg #[.slice G n J,.map (some N),.map (some O),.slice (Az M) n K,.slice pa n pc]] (w.alloc (.cells #[.slice G n J,.map (some N),.map (some O),.slice (Az M) n K,.slice pa n pc] 61)) fun e w'=>∃ g m c S,e=.returned (.slice (Az g) m c)∧PiledTo (w.alloc (.cells #[.slice G n J,.map (some N),.map (some O),.slice (Az M) n K,.slice pa n pc] 61)) w' pl g m c S):=by
  have:=piled_any (w.alloc (.cells #[.slice G n J,.map (some N),.map (some O),.slice (Az M) n K,.slice pa n pc] 61)) G (Az M) pa n J n K pc (some N) (some O) pl (hP.kept ae) γ γ;rw [hl,← a2] at this;exact this
 have HT:=H2 hT hP;have HD:=Hd a6;have ao:=Hd ap;obtain ⟨bs,az,b5,b6,b7⟩:=info_parts inf98;have HI:=H4 az b5 b6 b7;have ca:n≤300:=γ;have bz:0<n:=γ;clear hT hP hS a6 ap ae hl a2 h0 hn az b5 b6 b7;go_enter Tryz.func54,Tryz.ntmps54;go_wp2_with (go_at_call 72;refine CP.out.mono ?_;rintro e w1 ⟨g,m,c,S,rfl,aa⟩;obtain rfl:=aa.len;have f:=Hd aa;clear aa)
 obtain ⟨B,V⟩:∃ B,B=w.alloc (.cells #[.slice G n J,.map (some N),.map (some O),.slice (Az M) n K,.slice pa n pc] 61):=⟨_,rfl⟩;have ce:B.heap.size=w.heap.size+1:=by rw [V];simp
 have P:Hid (At B w.heap.size 0 (.slice G n J)∧At B w.heap.size 1 (.map (some N))∧At B w.heap.size 2 (.map (some O))∧At B w.heap.size 3 (.slice (Az M) n K)∧At B w.heap.size 4 (.slice pa n pc)):=by
  rw [V];exact ⟨δ,δ,δ,δ,δ⟩
 have Z:Hid (Bl w B):=by rw [V];exact Qb (Qe _)
 rw [← V] at f ao;obtain ⟨z,hz⟩:∃ z,z=w1.heap.size:=⟨_,rfl⟩;have ay:∀ e,(Gn pl pl.length e).length=(Gk pl e).length:=fun e=>by rw [Gn_eq,List.length_map];rfl
 have p:Hid (Far B z g S∧B.heap.size≤z∧(∀ s∈S,Gk pl s.1≠[])∧S.length≤300):=by
  have bq:g<w1.heap.size:=by
   obtain ⟨s,hs,_⟩:=f.out.all 0 (by have:=Y.out.2;omega);exact bk (f.out.row 0 (List.length_pos_of_mem hs))
  refine ⟨⟨by rw [hz];exact bq,fun s hs=>?_,f.out.far⟩,by rw [hz];exact f.out.b.size,fun s hs e=>?_, ?_⟩
  ·have h1:=(f.out.own s hs).lt s.2.1 rfl;exact ⟨by rw [hz];exact h1.2,h1.1,f.out.off s hs⟩
  ·refine f.out.ne s hs ?_;have:=ay s.1;rw [e] at this;exact List.length_eq_zero_iff.1 this
  ·have h1:=sub_lenP (S.map (fun s=>s.1)) pl (by
    refine List.pairwise_map.2 (f.out.ord.imp ?_);intro a b h e;exact Jr b.1 (by rw [e] at h;exact h)) (fun e he=>by
    obtain ⟨s,hs,rfl⟩:=List.mem_map.1 he;have b8:=f.out.ne s hs;rw [Gn_eq] at b8;obtain ⟨k,hk⟩:=List.exists_mem_of_ne_nil (Gk pl s.1) (fun e=>b8 (by show List.map _ (Gk pl s.1)=[];rw [e];rfl));have:=Qak.1 hk;rw [← this.2,List.getD_eq_getElem?_getD,List.getElem?_eq_getElem this.1];exact Lm _)
   rw [List.length_map] at h1;have:=Y.out.2;omega
 have an:Hid (STW B w1 z g SN L pl h S 0 [] []):=by
  have:STW B w1 z g SN L pl h S 0 [] []:=by
   refine ⟨fun i hi=>?_,fun i hi _=>own_nw (f.out.own S[i] (Lm hi)),⟨by simp [rowS],Or.inl ⟨rfl,rfl⟩⟩,⟨rfl,rfl⟩,fun i hi=>by simp at hi,fun s hs=>by simp at hs,fun i hi=>by simp at hi,f.out.b,γ⟩;show World.cell? _ _=_
   rw [f.out.row i hi,ay]
  exact this
 clear V hz;go_wp2;go_loopg [5,11] S.length (fun gk s5 bt wx=>∃ (k:Nat) (v:Value) (H:List (T3×List Nat)) (R:List (T3×Value)),k≤S.length∧gk=S.length - k∧v=s5∧bt=I (k:Int)∧STW B wx z g v L pl h S k H R)
 case atStart=>exact ⟨0,_,[],[],γ,rfl,rfl,rfl,an.out⟩
 case round =>
  clear an;obtain ⟨k,v,H,R,hk,rfl,rfl,rfl,hW⟩:=hrel;have A:=Hd hW;clear hW;by_cases h1:k<S.length
  ·have i1:(k:Int)<(S.length:Int):=γ;have i0:(0:Int)≤(k:Int):=γ;have c0:=A.out.row k h1;have zg:=Bt c0;have C:=p.out.1.s S[k] (Lm h1);have Q:=p.out.2.2.1 S[k] (Lm h1);have CS:=ao.out wr S[k].2.1 S[k].2.2 (Gk pl S[k].1) A.out.b C.2.1 Q (by have:=Gk_len pl S[k].1;have:=Y.out.2;omega) (fun j hj=>by have:=(Qak.1 hj).1;have:=Y.out;omega) (A.out.left k h1 (Nr _));obtain ⟨gb,ah⟩:∃ gb,gb=S[k].2.1:=⟨_,rfl⟩;obtain ⟨cb,ag⟩:∃ cb,cb=S[k].2.2:=⟨_,rfl⟩;obtain ⟨nb,ai⟩:∃ nb,nb=(Gk pl S[k].1).length:=⟨_,rfl⟩;rw [← ah,← ag,← ai] at c0 CS;have bm:=Hd CS;have F:=H3 ah ag ai;clear CS C ah ag ai Q;go_wp2_with (go_at_call 66;refine bm.out.mono ?_;rintro e w2 ⟨rfl,R',hp,hs,hN,ax⟩;have l:=H4 hp hs hN ax;clear hp hs hN ax)
   have C:=p.out.1.s S[k] (Lm h1);have Q:=p.out.2.2.1 S[k] (Lm h1);have D:Bl B w2:=A.out.b.grown l.out.2.2.2 A.out.b.size (fun r e=>by cases e;rw [F.out.1];exact C.2.1);have af:Bl w w2:=Z.out.trans (D.mono Z.out.size);have p0:=Qa D P.out.1;have p1:=Qa D P.out.2.1;have p2:=Qa D P.out.2.2.1;have p3:=Qa D P.out.2.2.2.1;have p4:=Qa D P.out.2.2.2.2;have ab:R'.length=nb:=by rw [F.out.2.2];exact l.out.1.length_eq
   have T:R'≠[]:=fun e=>Q (by have:=l.out.1;rw [e] at this;exact this.symm.eq_nil);have ac:0<R'.length:=List.length_pos_iff.2 T;obtain ⟨j,hj⟩:∃ j,j=R'[0]:=⟨_,rfl⟩;have r0:=(l.out.2.2.1 0 ac).1;have E:=Qak.1 (l.out.1.mem_iff.1 (Lm ac));rw [← hj] at r0 E;obtain ⟨gp,rfl,t0,t1,t2⟩:=(HT.out.2.kept af) j E.1;have b9:pl[j]=S[k].1:=by rw [← E.2,List.getD_eq_getElem?_getD,List.getElem?_eq_getElem E.1];rfl
   rw [b9] at t0 t1 t2;obtain ⟨x,hx⟩:∃ x,x=S[k].1.1:=⟨_,rfl⟩;obtain ⟨y,hy⟩:∃ y,y=S[k].1.2.1:=⟨_,rfl⟩;obtain ⟨t,ht⟩:∃ t,t=S[k].1.2.2:=⟨_,rfl⟩;rw [← hx] at t0;rw [← hy] at t1;rw [← ht] at t2;have a7:=H3 hx hy ht;have j1:(j:Int)<(n:Int):=by have:=Y.out.2;have:=E.1;omega
   have j0:(0:Int)≤(j:Int):=γ;have cf:(0:Int)<(nb:Int):=γ;have cg:0<nb:=γ;have zp:=Bt p0;have zb:=Bt r0;have zt:=Bt t0
   have CN:Hid (∀ W:World,Bl w2 W→Cl 101 #[.agg #[.slice G n J,.map (some N),.map (some O),.slice (Az M) n K,.slice (Az gp) n pc],.slice (Az gb) nb cb] W fun e w'=>∃ a c,e=.returned (.slice a nb c)∧TRow w' a (tgn L R')∧Bl W w'∧∀ g,a=Az g→W.heap.size≤g∧g<w'.heap.size):=fun W hW=>by
    have:=named_any W G J N O M K pc gb 0 cb (Az gp) L R' ((HT.out.1.kept af).kept hW) (fun i hi=>by rw [Nat.zero_add];exact Qa hW (l.out.2.2.1 i hi).1) (fun j hj=>by have:=(Qak.1 (l.out.1.mem_iff.1 hj)).1;have:=Y.out;omega) (by have:=Y.out;have:=Gk_len pl S[k].1;have:=F.out.2.2;omega) (by have:=Y.out.1;omega);unfold pileV at this;rw [← Y.out.1,ab] at this;exact this
   have ak:=H2 T ab;have am:=Hd A.out.len.1;have br:z≤w2.heap.size:=Nt A.out.zz l.out.2.2.2.size
   have bn:Hid (w2.ownsRow z 73 4 v R.length (rowS R)):=A.out.own.kept l.out.2.2.2 (by
    cases hu:v.ownBlock with
    | none=>exact Or.inl rfl
    | some q =>
     refine Or.inr (fun e1=>?_);have h5:=(A.out.own.lt q hu).1;have h6:=F.out.1;have h7:=C.1;simp at e1;omega)
   have bv:k≤300:=by have:=p.out.2.2.2;omega
   have u:Hid (∀ b,b<z→some b≠v.ownBlock):=fun b hb e=>by have:=(A.out.own.lt b e.symm).1;omega
   have X:w.heap.size<z:=by have:=p.out.2.1;omega
   have bu:gb<z:=by rw [F.out.1];exact C.1
   have aj:gp<z:=by
    obtain ⟨g',e9,u0,_⟩:=HT.out.2 j E.1
    cases e9;have u9:=Bt u0;omega
   clear hx hy ht b9 E ab T ac hj D af C Q
   go_region_held3 (fun w'=>At w' w.heap.size 0 (.slice G n J)∧At w' w.heap.size 1 (.map (some N))∧At w' w.heap.size 2 (.map (some O))∧At w' w.heap.size 3 (.slice (Az M) n K)∧At w' w.heap.size 4 (.slice (Az gp) n pc)∧At w' gb 0 (I (j:Int))∧At w' gp (j*3) (I x)∧At w' gp (j*3+1) (I y)∧At w' gp (j*3+2) (I t))
    ((refine ⟨?_, ?_, ?_, ?_, ?_, ?_, ?_, ?_, ?_⟩ <;> (first | (with_reducible (repeat (first | assumption | refine Qk ?_ | refine Qq ?_));done) | (simp [go_sem];done))))
    (first
     | (go_at_call 101;refine (CN.out _ φ).mono ?_;rintro e w8 ⟨a8,c8,rfl,ar,av,aw⟩;have o:Bl w2 w8:=Qc φ av;have HQ:Hid (TRow w8 a8 (tgn L R')∧Bl w2 w8∧∀ g,a8=some ⟨g,0,none⟩→w2.heap.size≤g∧g<w8.heap.size):=⟨ar,o,aw⟩;have ba:=Qa o p0;have bb:=Qa o p1;have bc:=Qa o p2;have be:=Qa o p3;have bf:=Qa o p4;have bg:=Qa o r0;have bh:=Qa o t0;have bi:=Qa o t1;have bj:=Qa o t2;have cd:z≤w8.heap.size:=Nt br o.size;clear ar av aw o)
     | (refine step_append_lies _ Ω (.tmp 19) (.tmp 31) 27 Ω z 73 bs (.agg #[I 0,I 0,I 0,SN]) 4 48 Tryz.underlying27 HI.out.1 HI.out.2.1 HI.out.2.2.1 HI.out.2.2.2 rfl ψ v R.length (rowS R) Ω (Qj bn.out (Qb HQ.out.2.1)) ⟨w8.heap.size,0,none⟩ 1 1 [I x,I y,I t,.slice a8 nb c8] Ω rfl (cell_four _ _ _ _ _ _) (four_one _ _ _ _ _ _) ψ (by have:=am.out;unfold maxLen;omega) (by have:=am.out;omega) ω (w8.heap.size+1) ξ ?_;intro gq bp W3 U d au bw;have s0:=d.cell (Qk ba) (u.out _ X);have s1:=d.cell (Qk bb) (u.out _ X);have s2:=d.cell (Qk bc) (u.out _ X);have s3:=d.cell (Qk be) (u.out _ X);have s4:=d.cell (Qk bf) (u.out _ X);have s5:=d.cell (Qk bg) (u.out _ bu);have s6:=d.cell (Qk bh) (u.out _ aj);have s7:=d.cell (Qk bi) (u.out _ aj);have s8:=d.cell (Qk bj) (u.out _ aj);have bo:Hid (STW B W3 z g (.slice (some ⟨gq,0,none⟩) (R.length+1) bp) L pl h S (k+1) (H ++ [(S[k].1,R')]) (R ++ [(S[k].1,.slice a8 nb c8)])):=(A.out.next h1 p.out.1 p.out.2.1 (F.out.1 ▸ l.out.2.2.2) l.out.1 l.out.2.1 HQ.out.2.1 HQ.out.1 (by rw [← ak.out.2];simp [tgn]) HQ.out.2.2 d (by rw [← a7.out.1,← a7.out.2.1,← a7.out.2.2];exact U) au ak.out.1);clear U d au))
   all_goals
    go_wp2;go_roundg (S.length - (k+1))
    case measure=>omega
    case rel=>exact ⟨k+1,_,_,_,γ,rfl,rfl,σ,bo.out⟩
  ·have i1:¬ (k:Int)<(S.length:Int):=γ;obtain rfl:k=S.length:=γ;obtain ⟨a,c9,rfl,aq⟩:=srow_of A.out.own (by rw [A.out.len.1,A.out.len.2]) A.out.tris (fun s hs q hq=>(A.out.off s hs q hq).1)
   have HE:Hid (Heap n (plcA pl) h H∧SRowF wr w.heap.size a (H.map fun s=>(s.1,tgn L s.2))∧Bl w wr):=by
    refine ⟨?_,aq.low (by have:=p.out.2.1;omega),Z.out.trans (A.out.b.mono Z.out.size)⟩;have:=heap_of (_L:=L) A.out.len.2 A.out.done f.out.ord p.out.2.2.1 f.out.all HD.out;rw [Y.out.2] at this;exact this
   clear aq;go_wp2;go_ret;exact ⟨a,c9,H,rfl,HE.out⟩
def rowM (M:Nat→M6):Nat→List Value
 | 0=>[]
 | n+1=>rowM M n ++ [I (M n).1,I (M n).2.1,I (M n).2.2.1,I (M n).2.2.2.1,I (M n).2.2.2.2.1,I (M n).2.2.2.2.2]
theorem Km (M:Nat→M6):∀ n,(rowM M n).length=n*6
 | 0=>rfl
 | n+1=>by
  unfold rowM;rw [List.length_append,Km M n];simp;omega
theorem rowM_at (M:Nat→M6):∀ n i,i<n→(rowM M n)[i*6]?=some (I (M i).1)∧(rowM M n)[i*6+1]?=some (I (M i).2.1)∧(rowM M n)[i*6+2]?=some (I (M i).2.2.1)∧(rowM M n)[i*6+3]?=some (I (M i).2.2.2.1)∧(rowM M n)[i*6+4]?=some (I (M i).2.2.2.2.1)∧(rowM M n)[i*6+5]?=some (I (M i).2.2.2.2.2)
 | 0,i,h=>by omega
 | n+1,i,h=>by
  unfold rowM;have hl:=Km M n;by_cases q:i<n
  ·obtain ⟨h0,h1,h2,h3,h4,h5⟩:=rowM_at M n i q;refine ⟨?_, ?_, ?_, ?_, ?_, ?_⟩ <;> (rw [List.getElem?_append_left γ];assumption)
  ·have e:i=n:=γ;subst e;refine ⟨?_, ?_, ?_, ?_, ?_, ?_⟩ <;> (rw [List.getElem?_append_right γ,hl];simp [Nat.add_sub_cancel_left])
theorem rowM_one (M:Nat→M6):∀ n,∀ u∈rowM M n,u.oneCell'=true
 | 0,u,h=>by simp [rowM] at h
 | n+1,u,h=>by
  unfold rowM at h;rcases List.mem_append.1 h with h | h
  ·exact rowM_one M n u h
  ·simp at h;rcases h with rfl | rfl | rfl | rfl | rfl | rfl <;> rfl
theorem mrow_cells (h:MRow w g n M):∀ j u,(rowM M n)[j]?=some u→w.cell? ((⟨g,0,none⟩:Addr).add j)=some u:=by
 intro j u a;have b:(⟨g,0,none⟩:Addr).add j=⟨g,j,none⟩:=by unfold Addr.add;split <;> simp_all
 rw [b]
 have f:j<n*6:=by
  have:=(List.getElem?_eq_some_iff.1 a).1;rw [Km] at this;exact this
 have hi:j / 6<n:=γ;obtain ⟨r0,r1,r2,r3,c,d⟩:=rowM_at M n (j / 6) hi;obtain ⟨⟨c0,c1,c2,c3,c4,c5⟩,_⟩:=h (j / 6) hi;have h6:j % 6=0∨j % 6=1∨j % 6=2∨j % 6=3∨j % 6=4∨j % 6=5:=γ;rcases h6 with q | q | q | q | q | q
 ·have e:j=j / 6*6:=γ;rw [e] at a ⊢;rw [r0] at a;rw [← a];exact c0
 ·have e:j=j / 6*6+1:=γ;rw [e] at a ⊢;rw [r1] at a;rw [← a];exact c1
 ·have e:j=j / 6*6+2:=γ;rw [e] at a ⊢;rw [r2] at a;rw [← a];exact c2
 ·have e:j=j / 6*6+3:=γ;rw [e] at a ⊢;rw [r3] at a;rw [← a];exact c3
 ·have e:j=j / 6*6+4:=γ;rw [e] at a ⊢;rw [c] at a;rw [← a];exact c4
 ·have e:j=j / 6*6+5:=γ;rw [e] at a ⊢;rw [d] at a;rw [← a];exact c5
theorem own_mrow (h:w.ownsRow base 114 6 v n (rowM M n)) (j:0<n):∃ g c,v=.slice (some ⟨g,0,none⟩) n c∧MRow w g n M∧base≤g:=by
 rcases h.2 with ⟨_,h0⟩ | ⟨g,b,d,rfl,hb,h3,_⟩
 ·omega
 ·have a:∀ o,w.frozen? ⟨g,o,none⟩=false:=fun o=>by simp [World.frozen?,h3]
  refine ⟨g,b,rfl,fun i hi=>⟨?_,⟨a _,a _,a _,a _,a _,a _⟩⟩,hb⟩;obtain ⟨r0,r1,r2,r3,e,f⟩:=rowM_at M n i hi;refine ⟨?_, ?_, ?_, ?_, ?_, ?_⟩
  ·(try simp only [At,I]);rw [h.cellAt (i*6) γ,r0]
  ·(try simp only [At,I]);rw [h.cellAt (i*6+1) γ,r1]
  ·(try simp only [At,I]);rw [h.cellAt (i*6+2) γ,r2]
  ·(try simp only [At,I]);rw [h.cellAt (i*6+3) γ,r3]
  ·(try simp only [At,I]);rw [h.cellAt (i*6+4) γ,e]
  ·(try simp only [At,I]);rw [h.cellAt (i*6+5) γ,f]
theorem cloneM_any (w:World) (g n c:Nat) (M:Nat→M6) (d:MRow w g n M) (h0:0<n) (h:n≤300) :
  Cl 53 #[.slice (Az g) n c] w fun e w'=>∃ a b,e=.returned (.slice (Az a) n b)∧MRow w' a n M∧w.heap.size≤a∧Bl w w':=by
 refine (clone_maps w g 0 n c (rowM M n) (Km M n) (mrow_cells d) (rowM_one M n) γ).mono ?_;rintro e w' ⟨v,rfl,f,hb⟩;obtain ⟨a,b,rfl,h1,h2⟩:=own_mrow f h0;exact ⟨a,b,rfl,h1,h2,hb⟩
theorem MRow.set (h:MRow w g n M) {b o:Nat} {u:Value} (a:g≠b):MRow (w.setCell ⟨b,o,none⟩ u) g n M:=h.grown (Ql w b o u) (by simpa using a)
theorem placed_yes (W H b off m n f:Nat) (z:Option Addr) (zs r:List Int) (w:World) (hr:Row w (Ad b off) zs) (J:1≤W∧W≤8) (T:1≤H∧H≤8) (hl:zs.length=W*H) (hm:maskB zs=true) (hk:Row w z r) (hn:r.length=n*5) (O:n≤3518437208883) (hs:Steps w) (G:Joined (ty zs W H)) (X:∀ i,i<n→CrOk (ty zs W H) r i) :
  Cl 18 #[.agg #[I (W:Int),I (H:Int),.slice (Ad b off) zs.length m,.slice z n f]] w fun e w'=>PlacedTo (kdn r n) (ty zs W H) w w' e:=by
 have V:=Hd (fun (q:World) c=>lay_yes W H b off m n f z zs r q (hr.kept c) J T hl hm (hk.kept c) hn O (hs.kept c) G X);have R:Hid (∀ q:World,Bl w q→Cl 45 #[.agg #[I (W:Int),I (H:Int),.slice (Ad b off) zs.length m,.slice z n f]] q fun e w'=>PlaceTo (kdn r n) (ty zs W H) q w' e):=fun q c=>Place_yes W H b off m n f z zs r q (hr.kept c) J T hl hm (hk.kept c) hn O (hs.kept c) G X;have o:(ty zs W H).length≤300:=by have:=Yu zs W H J.2;omega
 have y:=Yl zs W H;have u:=Kg (zs:=zs) J.2 T.2;have HS:=Hd hs;obtain ⟨L,Y⟩:∃ L,L=ty zs W H:=⟨_,rfl⟩;rw [← Y] at V R o y u G;rw [← Y];have B:Hid (Joined L∧L.Nodup∧∀ t∈L,(0≤t.1∧t.1≤8)∧(0≤t.2.1∧t.2.1≤8)∧(0≤t.2.2∧t.2.2≤3)):=⟨G,y,u⟩;clear hr hk hl hm J T hn hs G X Y y u;go_enter Tryz.func18,Tryz.ntmps18;go_upto_region 2 with (go_at_call 45;refine (R.out _ Ψ).mono ?_;rintro e h ⟨K,h2⟩;have a:=Hd K;have H2:=Hd h2;clear K h2;rcases H2.out with ⟨M,A,hc,rfl,hr⟩ | ⟨a8,rfl⟩)
 ·have k:Hid (MRow h A L.length M∧Cons (kdn r n) L M):=⟨hr,hc⟩;clear hr hc H2 R;have s0:At h w.heap.size 0 (I (W:Int)):=Qa a.out δ;have s1:At h w.heap.size 1 (I (H:Int)):=Qa a.out δ;have s2:At h w.heap.size 2 (.slice (Ad b off) zs.length m):=Qa a.out δ;have s3:At h w.heap.size 3 (.slice z n f):=Qa a.out δ;have zS:=Bt s0;have s:=Hd (Qc β2 a.out);go_upto_region 5 with (go_at_call 17;refine (V.out _ s.out).mono ?_;rintro e w3 ⟨E,F,base,P,Q,rfl,g⟩;have l:=Hd g.2.2.2.2;have C:=H2 g.pa g.kl;have D:=Hd g;clear g)
  clear s0 s1 s2 s3 zS;have CS:=Hd (fun (q:World) c=>spread_pile q F P Q A L.length E L (kdn r n) M (HS.out.kept (Qc s.out (Qc l.out c))) (C.out.1.kept c) (C.out.2.kept c) o B.out.2.2 (k.out.1.kept (Qc l.out c)) k.out.2 (cons_good B.out.1 B.out.2.1 o B.out.2.2 k.out.2));go_upto_region 6 with (go_at_call 32;refine (CS.out _ Θ).mono ?_;rintro e p ⟨pa,U,rfl,hT,N⟩;have j:=H2 (Qc β1 N) hT;clear N hT)
  have d:=Hd (Qc a.out (Qc l.out j.out.1));have d0:At p (w.heap.size+1) 0 SN:=Qa d.out δ;have d1:At p (w.heap.size+1) 1 (.map none):=Qa d.out δ;have d2:At p (w.heap.size+1) 2 (.map none):=Qa d.out δ;have d3:At p (w.heap.size+1) 3 SN:=Qa d.out δ;have d4:At p (w.heap.size+1) 4 SN:=Qa d.out δ;have k0:Fn p (w.heap.size+1) 0:=(Below.frozen d.out ξ).trans δ;have k1:Fn p (w.heap.size+1) 1:=(Below.frozen d.out ξ).trans δ;have k2:Fn p (w.heap.size+1) 2:=(Below.frozen d.out ξ).trans δ;have k3:Fn p (w.heap.size+1) 3:=(Below.frozen d.out ξ).trans δ;have k4:Fn p (w.heap.size+1) 4:=(Below.frozen d.out ξ).trans δ;have zD:=Bt d0;go_wp2;refine bodyPost_ret (v:=.tuple #[pileV E L.length F P Q A L.length pa U,I 0]) (by simp [pileV,results,Tryz.results18,go_sem, *]) rfl ⟨?_,Or.inl ⟨M,E,F,P,Q,A,L.length,pa,U,k.out.2,rfl, ?_⟩⟩
  ·have Z:=Qc (Qb (Qb (Qe w))) d.out;with_reducible repeat' (first | exact Z | refine Qh ?_ ?_ | refine Qb ?_ | refine Qg ?_)
   all_goals (dsimp only;omega)
  ·have x:=Ji (set5_grown p (w.heap.size+1) (.slice E L.length F) (.map (some P)) (.map (some Q)) (.slice (Az A) L.length L.length) (.slice pa L.length U)) (World.grownBy_alloc _ (.cells #[.slice E L.length F,.map (some P),.map (some Q),.slice (Az A) L.length L.length,.slice pa L.length U] 61) (some (w.heap.size+1)));have hz:=a.out.size;simp only [World.size_alloc] at hz;have aa:=D.out;obtain ⟨_,_,_,⟨a1,a2,a3,a4,a5,a6,a7⟩,_⟩:=aa;have g:=(((D.out.base s.out).kept j.out.1).grown x γ γ γ γ);have h0:0<L.length:=B.out.1.1;exact ⟨g.pa,g.kl,(k.out.1.kept (Qc l.out j.out.1)).grown x ((k.out.1.kept (Qc l.out j.out.1)).not_at h0 d0),j.out.2.grown x (j.out.2.not_at (by rw [Yj];exact h0) d0)⟩
 ·clear H2 R V;have d0:At h (w.heap.size+1) 0 SN:=Qa a.out δ;have d1:At h (w.heap.size+1) 1 (.map none):=Qa a.out δ;have d2:At h (w.heap.size+1) 2 (.map none):=Qa a.out δ;have d3:At h (w.heap.size+1) 3 SN:=Qa a.out δ;have d4:At h (w.heap.size+1) 4 SN:=Qa a.out δ;have k0:Fn h (w.heap.size+1) 0:=(Below.frozen a.out ξ).trans δ;have k1:Fn h (w.heap.size+1) 1:=(Below.frozen a.out ξ).trans δ;have k2:Fn h (w.heap.size+1) 2:=(Below.frozen a.out ξ).trans δ;have k3:Fn h (w.heap.size+1) 3:=(Below.frozen a.out ξ).trans δ;have k4:Fn h (w.heap.size+1) 4:=(Below.frozen a.out ξ).trans δ;have zD:=Bt d0;go_wp2;refine bodyPost_ret (v:=.tuple #[.agg #[SN,.map none,.map none,SN,SN],I 8]) (by simp [results,Tryz.results18,go_sem, *]) rfl ⟨?_,Or.inr ⟨a8,rfl⟩⟩;with_reducible repeat' (first | exact Qc β2 a.out | refine Qh ?_ ?_ | refine Qg ?_ | refine Qb ?_)
  all_goals (dsimp only;omega)
end Go.Proofs.YtjkjpopghkeibaaGreatDoor
