/- A part of it. -/
import Derived.Test.YtnpboeodhpenmaaGreatDoorQlay
import Derived.Test.YtnpboeodhpenmaaGreatDoorQlat
import Derived.Test.YtnpboeodhpenmaaGreatDoorQlav
set_option maxRecDepth 100000
set_option maxHeartbeats 40000000
namespace Go.Proofs.YtnpboeodhpenmaaGreatDoor
open Go.RowKit Go.Shelf Go.ChangeMaps
variable {g k:Nat} {w:World} {pl:List T3}
def Upw (h:Nat→Int) (R:List Nat):Prop:=R.Pairwise (fun a b=>¬ h b<h a)
def plcA (pl:List T3) (k:Nat):Int×Int×Int:=pl.getD k (0,0,0)
def NW (w:World) (g:Nat) (R:List Nat):Prop := ∀ i (h:i<R.length),At w g i (I ((R[i]:Nat):Int))∧Fn w g i
theorem NW.kept {w':World} {R:List Nat} (h:NW w g R) (a:Bl w w'):NW w' g R:=fun i hi=>by
 obtain ⟨h1,h2⟩:=h i hi;exact ⟨Qa a h1,(a.frozen (bk h1)).trans h2⟩
theorem NW.grown {w':World} {R:List Nat} {row:Option Nat} (h:NW w g R) (hg:w.grownBy w' row) (b:some g≠row):NW w' g R:=fun i hi=>by
 obtain ⟨h1,h2⟩:=h i hi;exact ⟨hg.cell h1 b,(Fo (a:=⟨g,i,none⟩) (hg.block g (bk h1) b)).trans h2⟩
def SortsN (w:World) (N:Nat) (rv:Value) (h:Nat→Int):Prop := ∀ (W:World) (g cap:Nat) (R:List Nat),Bl w W→w.heap.size≤g→R≠[]→R.length≤300→(∀ j∈R,j<N)→NW W g R →
 Cl 215 #[.slice (Az g) R.length cap,.func (.func 216) #[rv] #[]] W fun e w'=>e=.returned (.tuple #[])∧∃ R':List Nat,R'.Perm R∧Upw h R'∧NW w' g R'∧W.grownBy w' (some g)
def Gk (pl:List T3) (e:T3):List Nat:=(List.range pl.length).filter fun k=>decide (pl.getD k (0,0,0)=e)
theorem Gn_eq (pl:List T3):∀ i e,Gn pl i e=((List.range i).filter fun k=>decide (pl.getD k (0,0,0)=e)).map (fun k:Nat=>(k:Int))
 | 0,e=>by simp [Gn]
 | i+1,e=>by
  unfold Gn;rw [List.range_succ,List.filter_append,List.map_append,← Gn_eq pl i e];by_cases q:e=pl.getD i (0,0,0)
  ·rw [if_pos q,← q];simp [q]
  ·rw [if_neg q];have a:¬ pl.getD i (0,0,0)=e:=fun h=>q h.symm;simp only [List.filter_cons,List.filter_nil,a,decide_false,Bool.false_eq_true,if_false,List.map_nil,List.append_nil]
theorem Qak {e:T3}:k∈Gk pl e↔k<pl.length∧pl.getD k (0,0,0)=e:=by
 unfold Gk;rw [List.mem_filter,List.mem_range,decide_eq_true_eq]
theorem Gk_len (pl:List T3) (e:T3):(Gk pl e).length≤pl.length:=by
 have:=List.length_filter_le (fun k=>decide (pl.getD k (0,0,0)=e)) (List.range pl.length);rw [List.length_range] at this;exact this
theorem Gk_nodup (pl:List T3) (e:T3):(Gk pl e).Nodup:=List.Pairwise.filter _ List.nodup_range
theorem own_nw {base c:Nat} {e:T3} (h:w.ownsRow base 3 1 (.slice (some ⟨g,0,none⟩) (Gn pl pl.length e).length c) (Gn pl pl.length e).length ((Gn pl pl.length e).map (Value.int .i64))):NW w g (Gk pl e):=fun i hi=>by
 have j:(Gn pl pl.length e).length=(Gk pl e).length:=by (try simp only [At,I,Fn,Az,Ad,Bl]);rw [Gn_eq,List.length_map];rfl
 have d:=h.cellAt i γ;have e1:(Gn pl pl.length e)=(Gk pl e).map (fun k:Nat=>(k:Int)):=Gn_eq pl pl.length e;refine ⟨?_, ?_⟩
 ·(try simp only [At,I]);rw [d,e1]
  simp [hi]
 ·rcases h.2 with ⟨h1,_⟩ | ⟨f,a,b,h1,_,h3,_⟩
  ·cases h1
  ·cases h1;simp [World.frozen?,h3]
theorem inf98:(Tryz.prog.info? 107).map (fun i=>(i.zero,i.size,i.bytes))=some (some (.agg #[I 0,I 0,I 0,SN]),4,48):=η
theorem cell_four (w:World) (a b c d:Value) (T:TypeId):∀ j u,([a,b,c,d])[j]?=some u→(w.alloc (.cells #[a,b,c,d] T)).cell? ((⟨w.heap.size,0,none⟩:Addr).add j)=some u:=by
 intro j u e;match j,e with
 | 0,e=>simp at e;subst e;simp [Addr.add,go_sem]
 | 1,e=>simp at e;subst e;simp [Addr.add,go_sem]
 | 2,e=>simp at e;subst e;simp [Addr.add,go_sem]
 | 3,e=>simp at e;subst e;simp [Addr.add,go_sem]
structure Far (wA:World) (z g:Nat) (S:List (T3×Nat×Nat)):Prop where
 lt:g<z
 s:∀ s∈S,s.2.1<z∧wA.heap.size≤s.2.1∧s.2.1≠g
 far:S.Pairwise (fun x y=>x.2.1≠y.2.1)
theorem Far.ne {c:World} {z:Nat} {S:List (T3×Nat×Nat)} (h:Far c z g S) {i:Nat} (hi:i<S.length) (a:k<S.length) (b:i≠k):S[i].2.1≠S[k].2.1:=by
 have hp:=List.pairwise_iff_getElem.1 h.far;rcases Nat.lt_or_ge i k with q | q
 ·exact hp i k hi a q
 ·exact (hp k i a hi γ).symm
structure STW (wA wx:World) (z g:Nat) (v:Value) (L pl:List T3) (h:Nat→Int) (S:List (T3×Nat×Nat)) (k:Nat) (H:List (T3×List Nat)) (R:List (T3×Value)):Prop where
 row:∀ i (hi:i<S.length),At wx g i (.slice (Az (S[i].2.1)) (Gk pl S[i].1).length S[i].2.2)
 left:∀ i (hi:i<S.length),k≤i→NW wx S[i].2.1 (Gk pl S[i].1)
 own:wx.ownsRow z 107 4 v R.length (rowS R)
 len:R.length=k∧H.length=k
 tris:∀ i (hi:i<R.length) (hj:i<H.length),R[i].1=H[i].1∧TrisAt wx R[i].2 (tgn L H[i].2)
 off:∀ s∈R,∀ q,s.2.ownBlock=some q→z≤q∧q<wx.heap.size∧v.ownBlock≠some q
 done:∀ i (hi:i<H.length) (hj:i<S.length),H[i].1=S[i].1∧H[i].2.Perm (Gk pl S[i].1)∧Upw h H[i].2
 b:Bl wA wx
 zz:z≤wx.heap.size
theorem STW.next {A B y t x:World} {z m C n8 c8:Nat} {p:Option Addr} {v:Value} {o:Obj} {L:List T3} {N:Nat→Int} {S:List (T3×Nat×Nat)} {H:List (T3×List Nat)} {R:List (T3×Value)} {l:List Nat} (h:STW A B z g v L pl N S k H R) (Y:k<S.length) (J:Far A z g S) (a7:A.heap.size≤z)
  (d:B.grownBy y (some S[k].2.1)) (hp:l.Perm (Gk pl S[k].1)) (hs:Upw N l) (V:Bl y t) (Z:TRow t p (tgn L l)) (P:n8=(tgn L l).length) (W:∀ q,p=Az q→y.heap.size≤q∧q<t.heap.size)
  (c:(t.alloc o).grownBy x v.ownBlock) (n:x.ownsRow z 107 4 (.slice (Az m) (R.length+1) C) (R.length+1) (rowS R ++ [I S[k].1.1,I S[k].1.2.1,I S[k].1.2.2,.slice p n8 c8])) (E:v.ownBlock=some m∨m=t.heap.size+1) (f:l≠[]) :
  STW A x z g (.slice (Az m) (R.length+1) C) L pl N S (k+1) (H ++ [(S[k].1,l)]) (R ++ [(S[k].1,.slice p n8 c8)]):=by
 have z2:B.heap.size≤y.heap.size:=d.size;have z8:=V.size;have z3:=c.size;have zz:=h.zz;rw [World.size_alloc] at z3;have j:∀ q,v.ownBlock=some q→z≤q∧q<B.heap.size:=fun q e=>h.own.lt q e;have D:=J.s S[k] (Lm Y);have K:Bl y (t.alloc o):=Qb V;
 have F:∀ b q u,b<z→b≠S[k].2.1→At B b q u→At x b q u:=fun b q u hb f hc =>
  c.cell (Qa K (d.cell hc (by simpa using f))) (fun e=>by have:=(j _ e.symm).1;dsimp only at this;omega)
 have O:∀ b M,b<z→b≠S[k].2.1→NW B b M→NW x b M:=fun b M hb f hN =>
  ((hN.grown d (by simpa using f)).kept K).grown c (fun e=>by have:=(j _ e.symm).1;omega)
 refine ⟨fun i hi=>F _ _ _ J.lt D.2.2.symm (h.row i hi),fun i hi a6=>?_, ?_,⟨by simp [h.len.1],by simp [h.len.2]⟩,fun i hi X=>?_,fun s hs q hq=>?_,fun i hi X=>?_, ?_,γ⟩
 ·exact O _ _ (J.s _ (Lm hi)).1 (J.ne hi Y γ) (h.left i hi γ)
 ·rw [List.length_append,rowS_add];exact n
 ·by_cases q:i<R.length
  ·have q2:i<H.length:=by rw [h.len.2,← h.len.1];exact q
   obtain ⟨t1,t2⟩:=h.tris i q q2;rw [List.getElem_append_left q,List.getElem_append_left q2];refine ⟨t1, ?_⟩;have o1:=h.off R[i] (Lm q)
   have t3:=t2.grown d (fun b e=>by
    have:=(o1 b e).1;intro e2;simp at e2;omega)
   exact (t3.kept K).grown c (fun b e e2=>(o1 b e).2.2 e2.symm)
  ·have Q:i=R.length:=by rw [List.length_append,List.length_singleton] at hi;omega
   have q4:i=H.length:=by rw [Q,h.len.1,h.len.2]
   have e1:(R ++ [(S[k].1,Value.slice p n8 c8)])[i]=(S[k].1,Value.slice p n8 c8):=by
    rw [List.getElem_append_right γ];simp
   have e2:(H ++ [(S[k].1,l)])[i]=(S[k].1,l):=by
    rw [List.getElem_append_right γ];simp
   rw [e1,e2];refine ⟨rfl,p,c8,by rw [P], ?_⟩;refine (Z.kept β1).grownN c (fun b e e3=>?_);have f1:=(W b e).1;have f2:=(j b e3.symm).2;omega
 ·have a2:z≤m∧m<x.heap.size:=n.lt m rfl;rcases List.mem_append.1 hs with hs | hs
  ·obtain ⟨o1,o2,o3⟩:=h.off s hs q hq;refine ⟨o1,γ,fun e=>?_⟩;simp only [Value.ownBlock,Option.some.injEq] at e;rcases E with G | G
   ·exact o3 (by rw [G,e])
   ·omega
  ·simp at hs;subst hs;obtain ⟨q8,U,_⟩:=Z 0 (by simpa [tgn] using List.length_pos_iff.2 f);obtain ⟨f1,f2⟩:=W q8 U;rw [U] at hq;simp only [Value.ownBlock,Option.some.injEq] at hq ⊢;subst hq;refine ⟨γ,γ,fun e=>?_⟩;have e9:m=q8:=by simpa using e
   rcases E with G | G
   ·have:=(j m G).2;omega
   ·omega
 ·by_cases q:i<H.length
  ·rw [List.getElem_append_left q];exact h.done i q X
  ·have Q:i=H.length:=by rw [List.length_append,List.length_singleton] at hi;omega
   have e2:(H ++ [(S[k].1,l)])[i]=(S[k].1,l):=by
    rw [List.getElem_append_right γ];simp
   have q4:i=k:=by rw [Q,h.len.2]
   rw [e2];subst q4;exact ⟨rfl,hp,hs⟩
 ·have b2:Bl A y:=h.b.grown d h.b.size (fun r e=>by cases e;exact D.2.1);have T:Bl A (t.alloc o):=b2.trans (K.mono b2.size);exact T.grown c T.size (fun r e=>by have:=(j r e).1;omega)
end Go.Proofs.YtnpboeodhpenmaaGreatDoor
namespace Go.Proofs
open Go.Shelf
def Tryz.blen_ren:Go.Shelf.Ren:=⟨fun | 15=>108 | 28=>208 | 29=>209 | n=>n,fun | 39=>195 | 3=>3 | 53=>284 | 55=>286 | 4=>4 | 5=>5 | 9=>9 | n=>n,fun | n=>n⟩
theorem Tryz.blen:Go.Proofs.SlLaysF0.n15 Tryz.prog Tryz.blen_ren:={
 mixed:=by kernel_rfl
 f15:=Tryz.func108.trans (congrArg some (by kernel_rfl))
 f28:=Tryz.func208.trans (congrArg some (by kernel_rfl))
 f29:=Tryz.func209.trans (congrArg some (by kernel_rfl))
 t3:=Tryz.underlying3
 a3:=Tryz.isAgg3
 z3:=Tryz.sizeOf3
 v3:=Tryz.zeroValue3
 t4:=Tryz.underlying4
 a4:=Tryz.isAgg4
 z4:=Tryz.sizeOf4
 v4:=Tryz.zeroValue4
 t5:=Tryz.underlying5
 a5:=Tryz.isAgg5
 z5:=Tryz.sizeOf5
 v5:=Tryz.zeroValue5
 t9:=Tryz.underlying9
 a9:=Tryz.isAgg9
 z9:=Tryz.sizeOf9
 v9:=Tryz.zeroValue9
 t39:=Tryz.underlying195
 a39:=Tryz.isAgg195
 z39:=Tryz.sizeOf195
 v39:=Tryz.zeroValue195
 t53:=Tryz.underlying284
 a53:=Tryz.isAgg284
 z53:=Tryz.sizeOf284
 v53:=Tryz.zeroValue284
 t55:=Tryz.underlying286
 a55:=Tryz.isAgg286
 z55:=Tryz.sizeOf286
 v55:=Tryz.zeroValue286 }
end Go.Proofs
namespace Go.Proofs.YtnpboeodhpenmaaGreatDoor
open Go.RowKit
theorem sortNums_any (w:World) (g o n a N:Nat) (q:Value) (b:Nat→Nat→Int) (z:CmpF w g N q b) (s:Sort.SWO (ltF b)) (d:Array Nat) (A:d.size=n) (y:∀ k,k<d.size→d[k]! < N) (D:n≤300) (B:SrtW w w g o d) :
  Cl 215 #[.slice (Ad g o) n a,.func (.func 216) #[q] #[]] w fun e w'=>e=.returned (.tuple #[])∧∃ c,Sort.PermIn 0 n d c∧Sort.SortedIn (ltF b) 0 n c∧SrtW w w' g o c:=by
 have j:Lib.bitLen n≤62:=Lib.bitLen_le n 62 γ γ
 have t:Cl 108 #[.int .u64 (n:Int)] w fun e w'=>e=.returned (I (Lib.bitLen n:Nat))∧w'=w:=by
  have h:=Any.bits_Len (SlLaysF0.n15.bits (P:=Tryz.prog) (ρ:=Tryz.blen_ren) Tryz.blen) (n:Int) w γ γ;rw [Int.toNat_natCast] at h;exact h
 obtain ⟨f,l⟩:∃ f,f=Lib.bitLen n:=⟨_,rfl⟩;rw [← l] at t j;have C:=Hd t
 have v:Hid (Cl 265 #[.slice (Ad g o) n a,I 0,I (n:Int),I (f:Int),.func (.func 216) #[q] #[]] w fun e w'=>e=.returned (.tuple #[])∧SrtW w w' g o (Sort.pdq (ltF b) d 0 n f true true)):=by
  have:=pdq_any w g o n a N q b z s D (n+1) 0 n f d w γ A B γ γ γ y (Or.inl rfl);exact this
 have hs:=Sort.pdq_sorts (ltF b) s d 0 n f true true γ γ (Or.inl rfl);obtain ⟨c,i⟩:∃ c,c=Sort.pdq (ltF b) d 0 n f true true:=⟨_,rfl⟩;rw [← i] at v hs;have x:=Hd hs;have wr:IntKind.u64.wrap (n:Int)=(n:Int):=by simp [IntKind.wrap,IntKind.bits,IntKind.signed];omega
 clear hs i l t B z s y A;go_enter Tryz.func215,Tryz.ntmps215;go_wp2_with (first | (go_at_call 108;refine C.out.mono ?_;rintro e w1 ⟨rfl,m⟩;have u:=m.symm;clear m;subst u) | (go_at_call 265;refine v.out.mono ?_;rintro e E ⟨rfl,p⟩;have r:=Hd p;clear p))
 go_end0
 exact ⟨rfl,c,x.out.1,x.out.2,r.out⟩
theorem ltF_key (h:Nat→Int):ltF (fun x y=>cmp3 (h x) (h y))=fun x y=>decide (h x<h y):=by
 funext x y
 unfold ltF cmp3;by_cases q:h x<h y
 ·simp [q]
 ·by_cases q2:h y<h x
  ·simp [q,q2]
  ·simp [q,q2]
theorem sortsN_of (w:World) (N:Nat) (m:Value) (h:Nat→Int) (D:∀ W:World,Bl w W→∀ x y:Nat,x<N→y<N→Rt 216 #[m,I (x:Int),I (y:Int)] W (I (cmp3 (h x) (h y)))):SortsN w N m h:=by
 intro W g n R z hg u f B v;have p:CmpF W g N m (fun x y=>cmp3 (h x) (h y)):=fun H q x y F G=>D H (z.grown q z.size (fun r e=>by cases e;exact hg)) x y F G;have o:Sort.SWO (ltF (fun x y=>cmp3 (h x) (h y))):=by rw [ltF_key];exact swo_key h
 have t:g<W.heap.size:=bk (v 0 (List.length_pos_iff.2 u)).1
 have C:SrtW W W g 0 R.toArray:=⟨fun j d=>by
  have c:j<R.length:=by simpa using d
  obtain ⟨c1,c2⟩:=v j c;rw [Nat.zero_add,getElem!_pos _ j d];simp only [List.getElem_toArray];exact ⟨c1,c2⟩,⟨rfl,rfl,rfl,Nr _,fun _ _ _=>rfl⟩,t⟩
 refine (sortNums_any W g 0 R.length n N m _ p o R.toArray ξ (fun k E=>by
  rw [getElem!_pos _ k E];simp only [List.getElem_toArray];exact B _ (Lm _)) f C).mono ?_
 rintro e w' ⟨rfl,a,hp,hs,A⟩;have l:a.size=R.length:=by simpa using hp.1
 refine ⟨rfl,a.toList, ?_, ?_, ?_,A.gr⟩
 ·have h3:=hp.2.2
  have e1:(a.extract 0 R.length).toList=a.toList:=by
   rw [← l];simp
  have e2:(R.toArray.extract 0 R.length).toList=R:=ξ;rw [e1,e2] at h3;exact h3
 ·unfold Upw;rw [List.pairwise_iff_getElem];intro i j hi d s;have:=hs i j (Nat.zero_le _) s (by simpa [l] using d);have b:i<a.size:=by simpa using hi
  have c:j<a.size:=by simpa using d
  rw [getElem!_pos a i b,getElem!_pos a j c,ltF_key,decide_eq_false_iff_not] at this;simpa using this
 ·intro i hi;have b:i<a.size:=by simpa using hi
  obtain ⟨c1,c2⟩:=A.row i b;rw [Nat.zero_add,getElem!_pos a i b] at c1;rw [Nat.zero_add] at c2;exact ⟨by simpa using c1,c2⟩
open Go.ChangeMaps
def TBv (bt:Nat):Value:=.func (.func 48) #[] #[.pointer (Az bt)]
theorem turnCl_any (w:World) (g f N a b:Nat) (h:Nat→Int) (j:At w g 0 (ABv f)) (i:Hg w f N h) (l:a<N) (m:b<N) (k:N≤300) :
  Rt 48 #[I (a:Int),I (b:Int),.pointer (Az g)] w (.bool (decide (h a<h b))):=by
 have CA:=Hd (Gj w f N b a h i m l k);obtain ⟨r,hr⟩:∃ r,r=decide (h a<h b):=⟨_,rfl⟩;rw [← hr] at CA ⊢;clear hr i;unfold ABv at j;have n:=Bt j;go_enter Tryz.func48,Tryz.ntmps48;go_wp2_with (go_at_call 187;refine CA.out.mono ?_;rintro e w1 ⟨rfl,c⟩;have d:=Hd c;clear c)
 go_ret;exact ⟨rfl,d.out⟩
theorem turnCmp_any (w:World) (m l N a b:Nat) (h:Nat→Int) (u:At w m 0 (ABv l)) (t:Hg w l N h) (o:a<N) (s:b<N) (v:N≤300) :
  Rt 216 #[TBv m,I (a:Int),I (b:Int)] w (I (cmp3 (-h a) (-h b))):=by
 have j:=Hd (fun (W:World) hW=>turnCl_any W m l N b a h (Qa hW u) (t.kept hW) s o v);have n:=Hd (fun (W:World) hW=>turnCl_any W m l N a b h (Qa hW u) (t.kept hW) o s v)
 have g:Hid (cmp3 (-h a) (-h b)=if decide (h b<h a)=true then -1 else if decide (h a<h b)=true then 1 else 0):=by
  show cmp3 (-h a) (-h b)=_
  unfold cmp3;simp only [decide_eq_true_eq];by_cases q1:h b<h a
  ·rw [if_pos γ,if_pos q1]
  ·rw [if_neg γ,if_neg q1];by_cases q2:h a<h b
   ·rw [if_pos γ,if_pos q2]
   ·rw [if_neg γ,if_neg q2]
 obtain ⟨r,hr⟩:∃ r,r=cmp3 (-h a) (-h b):=⟨_,rfl⟩;obtain ⟨p,hp⟩:∃ p,p=decide (h b<h a):=⟨_,rfl⟩;obtain ⟨q,hq⟩:∃ q,q=decide (h a<h b):=⟨_,rfl⟩;rw [← hp] at j g;rw [← hq] at n g;rw [← hr] at g ⊢;unfold TBv;clear hp hq hr t u o s
 cases p
 ·cases q
  ·have k:=Hd g.out;clear g;go_enter Tryz.func216,Tryz.ntmps216
   go_wp2_with (first
    | (go_at_call 48;refine (j.out _ (Qe _)).mono ?_;rintro e w1 ⟨rfl,c⟩;have d:=Hd c;clear c j)
    | (go_at_call 48;refine (n.out _ d.out).mono ?_;rintro e x ⟨rfl,f⟩;have i:=Hd (Qc d.out f);clear f))
   go_ret;exact ⟨Jp k.out.symm,i.out⟩
  ·have k:=Hd g.out;clear g;go_enter Tryz.func216,Tryz.ntmps216
   go_wp2_with (first
    | (go_at_call 48;refine (j.out _ (Qe _)).mono ?_;rintro e w1 ⟨rfl,c⟩;have d:=Hd c;clear c j)
    | (go_at_call 48;refine (n.out _ d.out).mono ?_;rintro e x ⟨rfl,f⟩;have i:=Hd (Qc d.out f);clear f))
   go_ret;exact ⟨Jp k.out.symm,i.out⟩
 ·have k:=Hd g.out;clear g;go_enter Tryz.func216,Tryz.ntmps216;go_wp2_with (go_at_call 48;refine (j.out _ (Qe _)).mono ?_;rintro e w1 ⟨rfl,c⟩;have d:=Hd c;clear c)
  go_ret;exact ⟨Jp k.out.symm,d.out⟩
theorem turnSorts (w:World) (a b N:Nat) (h:Nat→Int) (f:At w a 0 (ABv b)) (e:Hg w b N h) (d:N≤300):SortsN w N (TBv a) (fun i=>-h i) :=
 sortsN_of w N (TBv a) (fun i=>-h i) fun W c x y g j=>turnCmp_any W a b N x y h (Qa c f) (e.kept c) g j d
def mz:M6:=(-1,0,0,1,0,0)
def tz (M:Nat→M6) (i:Nat):M6:=aft (M i) mz
theorem Qai (a b c d e f:Int):aft (a,b,c,d,e,f) mz=(-a, -b,c,d, -e,f):=by
 simp only [aft,mz,dot,Prod.mk.injEq];refine ⟨?_, ?_, ?_, ?_, ?_, ?_⟩ <;> omega
theorem map_mz {m:M6} (h:mapM m=true):mapM (aft m mz)=true:=by
 obtain ⟨a,b,c,d,e,f⟩:=m;have h:mapB a b c d e f=true:=h;rw [Qai];show mapB (-a) (-b) c d (-e) f=true
 have g:=Xz h;simp only [mapB,evenB,unitB,Bool.and_eq_true,Bool.or_eq_true,decide_eq_true_eq] at h ⊢;omega
theorem map_mzZ:mapM mz=true:=ψ
theorem aft_assoc (a b c:M6):aft (aft a b) c=aft a (aft b c):=by
 obtain ⟨a0,a1,d,a3,a4,a5⟩:=a;obtain ⟨b0,b1,b2,b3,b4,e⟩:=b;obtain ⟨c0,c1,c2,c3,c4,c5⟩:=c;simp only [aft,dot,Prod.mk.injEq];refine ⟨?_, ?_, ?_, ?_, ?_, ?_⟩ <;> simp only [Int.mul_add,Int.add_mul,Int.mul_assoc] <;> omega
theorem fz_new (V:World) (cs:Array Value) (T:TypeId) (q:Nat):(V.alloc (.cells cs T)).frozen? ⟨V.heap.size,q,none⟩=false:=World.frozen?_alloc_at cs T _ q rfl
structure Onw (w wx:World) (gm gn n:Nat) (M:Nat→M6) (i:Nat) (ad pa:Option Addr) (cc ra rk cm pc:Nat):Prop where
 mr:MRow wx gn n (fun q=>if q<i then tz M q else noM)
 b:Bl w wx
 c0:At wx w.heap.size 0 (.slice ad n cc)
 c1:At wx w.heap.size 1 (.map (some ra))
 c2:At wx w.heap.size 2 (.map (some rk))
 d0:At wx (w.heap.size+1) 0 (I (-1))
 d1:At wx (w.heap.size+1) 1 (I 0)
 d2:At wx (w.heap.size+1) 2 (I 0)
 d3:At wx (w.heap.size+1) 3 (I 1)
 d4:At wx (w.heap.size+1) 4 (I 0)
 d5:At wx (w.heap.size+1) 5 (I 0)
 z0:At wx (w.heap.size+2) 0 SN
 z1:At wx (w.heap.size+2) 1 (.map none)
 z2:At wx (w.heap.size+2) 2 (.map none)
 z3:At wx (w.heap.size+2) 3 SN
 z4:At wx (w.heap.size+2) 4 SN
 fz:∀ q,Fn wx (w.heap.size+2) q
 gl:w.heap.size+3≤gn
theorem Onw.kept {w d w':World} {j k n:Nat} {M:Nat→M6} {i:Nat} {e pa:Option Addr} {f m o g l:Nat} (h:Onw w d j k n M i e pa f m o g l) (c:Bl d w'):Onw w w' j k n M i e pa f m o g l :=
 ⟨h.mr.kept c,Qc h.b c,Qa c h.c0,Qa c h.c1,Qa c h.c2,Qa c h.d0,Qa c h.d1,Qa c h.d2,Qa c h.d3,Qa c h.d4,Qa c h.d5,Qa c h.z0,Qa c h.z1,Qa c h.z2,Qa c h.z3,Qa c h.z4,fun q=>(Fo (a:=⟨w.heap.size+2,q,none⟩) (c.block (w.heap.size+2) (World.block_lt_of_cell? d ⟨w.heap.size+2,0,none⟩ h.z0))).trans (h.fz q),h.gl⟩
theorem Onw.put {w c:World} {l d n:Nat} {M:Nat→M6} {i:Nat} {f pa:Option Addr} {g p r j m:Nat} (h:Onw w c l d n M i f pa g p r j m) (hi:i<n):Onw w (set6 c d i (tz M i)) l d n M (i+1) f pa g p r j m:=by
 have hg:=set6_grown c d i (tz M i);have v:=h.gl;have k:∀ {b o:Nat} {u:Value},At c b o u→b<w.heap.size+3→(set6 c d i (tz M i)).cell? ⟨b,o,none⟩=some u:=fun {b o u} s t=>hg.cell s ω;refine ⟨?_,h.b.grown hg h.b.size (fun q e=>by simp at e;omega),k h.c0 γ,k h.c1 γ,k h.c2 γ,k h.d0 γ,k h.d1 γ,k h.d2 γ,k h.d3 γ,k h.d4 γ,k h.d5 γ,k h.z0 γ,k h.z1 γ,k h.z2 γ,k h.z3 γ,k h.z4 γ,fun q=>(Fo (a:=⟨w.heap.size+2,q,none⟩) (hg.block (w.heap.size+2) (World.block_lt_of_cell? c ⟨w.heap.size+2,0,none⟩ h.z0) ω)).trans (h.fz q),h.gl⟩;have h6:=h.mr.set6 hi (tz M i)
 have e:(fun q=>if q=i then tz M i else if q<i then tz M q else noM)=fun q=>if q<i+1 then tz M q else noM:=by
  funext q
  by_cases e1:q=i
  ·subst e1;rw [if_pos rfl,if_pos γ]
  ·rw [if_neg e1];by_cases e2:q<i
   ·rw [if_pos e2,if_pos γ]
   ·rw [if_neg e2,if_neg γ]
 rw [e] at h6;exact h6
theorem onward_any (w:World) (p s x Q P Z:Nat) (n pa:Option Addr) (L:List T3) (kd:E4→Int) (M:Nat→M6) (hP:PileAt w n p s x Q P pa Z L kd M) (hs:Steps w) (h0:0<L.length) (hL:L.length≤300) (ah:∀ t∈L,(0≤t.1∧t.1≤8)∧(0≤t.2.1∧t.2.1≤8)∧(0≤t.2.2∧t.2.2≤3)) (ae:∀ i,i<L.length→MOk1 L M i) :
  Cl 46 #[.agg #[.slice n L.length p,.map (some s),.map (some x),.slice (Az Q) L.length P,.slice pa L.length Z],.agg #[I (-1),I 0,I 0,I 1,I 0,I 0]] w fun e w'=>(∃ z0 k0 d0 m1 m2 z3 k3 d3 z4 k4 d4,e=.returned (.tuple #[.agg #[.slice z0 k0 d0,.map m1,.map m2,.slice z3 k3 d3,.slice z4 k4 d4],.bool false])∧¬ MOk kd L (tz M)∧Bl w w')
   ∨ ∃ y cn j l,e=.returned (.tuple #[.agg #[.slice n L.length p,.map (some s),.map (some x),.slice (Az y) L.length cn,.slice j L.length l],.bool true])∧MOk kd L (tz M)∧PileAt w' n p s x y cn j l L kd (tz M)∧Bl w w':=by
 have G:Hid (PileAt w n p s x Q P pa Z L kd M∧Steps w∧(∀ t∈L,(0≤t.1∧t.1≤8)∧(0≤t.2.1∧t.2.1≤8)∧(0≤t.2.2∧t.2.2≤3))∧∀ i,i<L.length→MOk1 L M i):=⟨hP,hs,ah,ae⟩;obtain ⟨i6,hi,aj,ak,am⟩:=info_parts inf59;have HI:=H4 hi aj ak am;clear hP hs ah ae hi aj ak am;go_enter Tryz.func46,Tryz.ntmps46;go_upto_region 1 with fail
 refine Qi (fun O hW0=>?_);have ab:=Hd hW0;have x3:At O w.heap.size 3 (.slice (Az Q) L.length P):=ν
 have H:Hid (Bl w O∧O.heap.size=w.heap.size+3):=by
  rw [hW0];exact ⟨Qb β2,ξ⟩
 have zb:=Bt x3;clear hW0;go_wp2_with (at_make;refine wpList_make_full _ rfl (.tmp 13) (.tmp 13) 26 rfl O.heap.size 91 i6 (.agg #[I 0,I 0,I 0,I 0,I 0,I 0]) 6 Tryz.underlying26 HI.out.1 HI.out.2.1 HI.out.2.2.1 .i64 .i64 _ _ L.length rfl rfl rfl rfl ?b2 ?b3 ?b4 ?mk)
 case b2 =>
  rw [HI.out.2.2.2];omega
 case b3 =>
  unfold maxLen;omega
 case b4=>exact Nr _
 case mk =>
  intro w2 ho hg;have f:Bl O w2:=(Below.refl _ _).grown hg (Nr _) (fun k h=>by cases h);obtain ⟨y,K⟩:∃ g,g=O.heap.size:=⟨_,rfl⟩
  have HO:Hid (Onw w w2 Q y L.length M 0 n pa p s x P Z):=by
   have Y:=maps_made ho
   have e0:(fun q:Nat=>if q<0 then tz M q else noM)=fun _=>noM:=by
    funext q
    rw [if_neg γ]
   have m:=ab.out;have k:∀ {b o:Nat} {u:Value},At O b o u→At w2 b o u:=fun hc=>Qa f hc;refine ⟨by rw [e0,K];exact Y,Qc H.out.1 f,k (by rw [m];simp [go_sem]),k (by rw [m];simp [go_sem]),k (by rw [m];simp [go_sem]),k (by rw [m];simp [go_sem]),k (by rw [m];simp [go_sem]),k (by rw [m];simp [go_sem]),k (by rw [m];simp [go_sem]),k (by rw [m];simp [go_sem]),k (by rw [m];simp [go_sem]),k (by rw [m];simp [go_sem]),k (by rw [m];simp [go_sem]),k (by rw [m];simp [go_sem]),k (by rw [m];simp [go_sem]),k (by rw [m];simp [go_sem]),fun q=>?_,by rw [K,H.out.2];exact Nr _⟩;refine (Fo (a:=⟨w.heap.size+2,q,none⟩) (f.block (w.heap.size+2) (by rw [H.out.2];omega))).trans ?_;have e9:w.heap.size+2=((w.alloc (.cells #[.slice n L.length p,.map (some s),.map (some x),.slice (Az Q) L.length P,.slice pa L.length Z] 100)).alloc (.cells #[I (-1),I 0,I 0,I 1,I 0,I 0] 91)).heap.size:=ξ;rw [m,e9];exact fz_new _ _ _ q
  replace x3:=Qa f x3;replace zb:w.heap.size<w2.heap.size:=bk x3;rw [← K];clear ho hg f K ab H;go_wp2;go_loopg [18] L.length (fun gk ar wx=>∃ i:Nat,i≤L.length∧gk=L.length - i∧ar=I (i:Int)∧Onw w wx Q y L.length M i n pa p s x P Z)
  case atStart=>exact ⟨0,γ,rfl,rfl,HO.out⟩
  case round =>
   clear HO x3 zb;obtain ⟨i,hi,rfl,rfl,hS⟩:=hrel;have c:=Hd hS;clear hS;by_cases h1:i<L.length
   ·have i1:(i:Int)<(L.length:Int):=γ;have i0:(0:Int)≤(i:Int):=γ;obtain ⟨⟨y0,y1,y2,y3,y4,y5⟩,_⟩:=(G.out.1.mr.kept c.out.b) i h1;obtain ⟨A,B,C,D,E,F,Y⟩:∃ A B C D E F,M i=(A,B,C,D,E,F):=⟨_,_,_,_,_,_,rfl⟩;rw [Y] at y0 y1 y2 y3 y4 y5;dsimp only at y0 y1 y2 y3 y4 y5;have zg:=Bt y0;have W:mapM (A,B,C,D,E,F)=true:=by rw [← Y];exact (G.out.2.2.2 i h1).1
    have ao:Hid (tz M i=(-A, -B,C,D, -E,F)):=by
     show tz M i=(-A, -B,C,D, -E,F)
     unfold tz;rw [Y];exact Qai A B C D E F
    have a2:Hid (∀ V:World,Rt 115 #[.agg #[I A,I B,I C,I D,I E,I F],.agg #[I (-1),I 0,I 0,I 1,I 0,I 0]] V (.tuple #[.agg #[I (-A),I (-B),I C,I D,I (-E),I F],I 0])):=fun V=>by
     have e9:=Qai A B C D E F;have h9:=map_mz W;rw [e9] at h9;simp only [aft,mz,Prod.mk.injEq] at e9;obtain ⟨f0,f1,f2,f3,f4,f5⟩:=e9;have:=After_yes A B C D E F (-1) 0 0 1 0 0 V W ψ (by rw [f0,f1,f2,f3,f4,f5];exact h9);rw [f0,f1,f2,f3,f4,f5] at this;exact this
    obtain ⟨d0,d1,d2,d3,d4,d5⟩:(At wr (w.heap.size+1) 0 (I (-1))∧At wr (w.heap.size+1) 1 (I 0)∧At wr (w.heap.size+1) 2 (I 0)∧At wr (w.heap.size+1) 3 (I 1)∧At wr (w.heap.size+1) 4 (I 0)∧At wr (w.heap.size+1) 5 (I 0)):=⟨c.out.d0,c.out.d1,c.out.d2,c.out.d3,c.out.d4,c.out.d5⟩;have zd:=Bt d0;clear Y W;go_upto_region 8 with (go_at_call 115;refine (a2.out _).mono ?_;rintro e w5 ⟨rfl,af⟩;have ac:Hid _:=af;clear af)
    have a7:Hid (Bl wr w5):=by
     show Bl wr w5
     refine Qc ?_ ac.out;with_reducible repeat' (first | exact Qe _ | refine Qh ?_ ?_ | refine Qb ?_)
     all_goals (first | omega | (dsimp only;omega))
    clear ac;refine Qi (fun N U=>?_);obtain ⟨X,R⟩:∃ b,b=w5.heap.size:=⟨_,rfl⟩
    have an:Hid (Bl wr N):=by
     show Bl wr N
     rw [U];with_reducible repeat' (first | exact a7.out | refine Qh ?_ ?_ | refine Qb ?_)
     all_goals (have:=a7.out.size;first | omega | (dsimp only;omega))
    have X6:Hid (At N X 0 (I (-A))∧At N X 1 (I (-B))∧At N X 2 (I C)∧At N X 3 (I D)∧At N X 4 (I (-E))∧At N X 5 (I F)):=by
     rw [U,R];refine ⟨?_, ?_, ?_, ?_, ?_, ?_⟩ <;> simp [go_sem]
    rw [← R];clear U R d0 d1 d2 d3 d4 d5 zd y0 y1 y2 y3 y4 y5 zg;have aa:=Hd (c.out.kept an.out);obtain ⟨x0,x1,x2,x3,x4,x5⟩:=X6.out;have z9:=Bt x0;obtain ⟨⟨m0,m1,m2,m3,m4,m5⟩,f0,f1,f2,f3,f4,f5⟩:=aa.out.mr i h1;have zn:=Bt m0;have HN:=Hd (aa.out.put h1);rw [ao.out] at HN;unfold set6 at HN;dsimp only at HN;go_wp2;go_roundg (L.length - (i+1))
    case measure=>omega
    case rel=>exact ⟨i+1,γ,rfl,σ,HN.out⟩
   ·have i1:¬ (i:Int)<(L.length:Int):=γ;obtain rfl:i=L.length:=γ
    have a8:Hid (MRow wr y L.length (tz M)):=fun q hq=>by
     have:=c.out.mr q hq;dsimp only at this;rw [if_pos hq] at this;exact this
    have a6:=Hd (spread_gen wr p s x y L.length n L kd (tz M) (G.out.2.1.kept c.out.b) (G.out.1.tr.kept c.out.b) (G.out.1.kl.kept c.out.b) hL G.out.2.2.1 a8.out);have c0:=c.out.c0;have c1:=c.out.c1;have c2:=c.out.c2;have zc:=Bt c0;by_cases hok:MOk kd L (tz M);rotate_left
    ·go_wp2_with (go_at_call 96;refine a6.out.mono ?_;rintro e w7 T;obtain ⟨z0,k0,d0,m1,m2,z3,k3,d3,z4,k4,d4,rfl,ap,d⟩:=T.resolve_right (fun q=>by obtain ⟨_,_,_,q,_⟩:=q;exact hok q);have z:Hid (¬ MOk kd L (tz M)∧Bl w w7):=⟨ap,Qc c.out.b d⟩;obtain ⟨_,_,_,_,_,_,_,_,_,_,_,q0,q1,q2,q3,q4,r,_⟩:=c.out.kept d;have zz:=Bt q0;have au:=r 0;have av:=r 1;have aw:=r 2;have ax:=r 3;have ay:=r 4;clear d r)
     refine bodyPost_ret (v:=.tuple #[.agg #[.slice z0 k0 d0,.map m1,.map m2,.slice z3 k3 d3,.slice z4 k4 d4],.bool false]) (by simp [results,Tryz.results46,go_sem, *]) rfl (Or.inl ⟨z0,k0,d0,m1,m2,z3,k3,d3,z4,k4,d4,rfl,z.out.1, ?_⟩);with_reducible repeat' (first | exact z.out.2 | refine Qh ?_ ?_)
     all_goals (first | omega | (dsimp only;omega))
    ·go_wp2_with (go_at_call 96;refine a6.out.mono ?_;rintro e w7 T;obtain ⟨j,l,rfl,ai,aq,d⟩:=T.resolve_left (fun q=>by obtain ⟨_,_,_,_,_,_,_,_,_,_,_,_,q,_⟩:=q;exact q hok);have z:=H4 ai aq (Qc c.out.b d) d;obtain ⟨_,_,_,_,_,_,_,_,_,_,_,q0,q1,q2,q3,q4,r,_⟩:=c.out.kept d;have zz:=Bt q0;have au:=r 0;have av:=r 1;have aw:=r 2;have ax:=r 3;have ay:=r 4;clear d r)
     refine bodyPost_ret (v:=.tuple #[.agg #[.slice n L.length p,.map (some s),.map (some x),.slice (Az y) L.length L.length,.slice j L.length l],.bool true]) (by simp [results,Tryz.results46,go_sem, *]) rfl (Or.inr ⟨y,L.length,j,l,rfl,z.out.1, ?_, ?_⟩)
     ·have J:PileAt w7 n p s x y L.length j l L kd (tz M):=⟨G.out.1.tr.kept z.out.2.2.1,G.out.1.kl.kept z.out.2.2.1,a8.out.kept z.out.2.2.2,z.out.2.1⟩;have hg:=set5_grown w7 (w.heap.size+2) (.slice n L.length p) (.map (some s)) (.map (some x)) (.slice (Az y) L.length L.length) (.slice j L.length l);have ag:Bl w (set5 w7 (w.heap.size+2) (.slice n L.length p) (.map (some s)) (.map (some x)) (.slice (Az y) L.length L.length) (.slice j L.length l)):=z.out.2.2.1.grown hg z.out.2.2.1.size (fun q e=>by simp at e;omega);exact ⟨G.out.1.tr.kept ag,G.out.1.kl.kept ag,J.mr.grown hg (J.mr.not_at h0 q0),J.pl.grown hg (J.pl.not_at (by rw [Yj];exact h0) q0)⟩
     ·with_reducible repeat' (first | exact z.out.2.2.1 | refine Qh ?_ ?_)
      all_goals (first | omega | (dsimp only;omega))
end Go.Proofs.YtnpboeodhpenmaaGreatDoor
namespace Go.Proofs.YtnpboeodhpenmaaGreatDoor
open Go.RowKit Go.Shelf Go.ChangeMaps
variable {w:World} {base g i n:Nat} {M:Nat→M6} {a:Option Addr} {u v:Value} {h:Nat→Int}
theorem four_one (a b c:Int) (d:Option Addr) (n m:Nat):∀ u ∈ [I a,I b,I c,.slice d n m],u.oneCell'=true:=by
 intro u e;simp at e;rcases e with rfl | rfl | rfl | rfl <;> rfl
theorem heap_of {_L pl:List T3} {S:List (T3×Nat×Nat)} {H:List (T3×List Nat)} (t:H.length=S.length) (g:∀ i (hi:i<H.length) (c:i<S.length),H[i].1=S[i].1∧H[i].2.Perm (Gk pl S[i].1)∧Upw h H[i].2) (r:S.Pairwise (fun x y=>ltT x.1 y.1)) (p:∀ s∈S,Gk pl s.1≠[]) (l:∀ k,k<pl.length→∃ s∈S,s.1=pl.getD k (0,0,0)) (f:∀ i j,i<pl.length→j<pl.length→pl.getD i (0,0,0)=pl.getD j (0,0,0)→i≠j→h i≠h j) :
  Heap pl.length (plcA pl) h H:=by
 refine ⟨?_, ?_, ?_⟩
 ·rw [List.pairwise_iff_getElem];intro i j hi c m;have hp:=List.pairwise_iff_getElem.1 r i j γ γ m;rw [(g i hi γ).1,(g j c γ).1];exact hp
 ·intro s hs;obtain ⟨i,hi,rfl⟩:=List.getElem_of_mem hs;obtain ⟨e1,e2,e3⟩:=g i hi γ
  have n:∀ j∈H[i].2,j<pl.length∧pl.getD j (0,0,0)=H[i].1:=fun j c=>by
   rw [e1];exact Qak.1 (e2.mem_iff.1 c)
  refine ⟨fun e=>?_, ?_,n⟩
  ·rw [e] at e2;exact p S[i] (Lm _) e2.symm.eq_nil
  ·have o:H[i].2.Nodup:=e2.nodup_iff.2 (Gk_nodup _ _);refine (e3.and o).imp_of_mem (fun {a b} l q d=>?_);have h1:=n a l;have h2:=n b q;have:=f a b h1.1 h2.1 (by rw [h1.2,h2.2]) d.2;have:=d.1;omega
 ·intro j c;obtain ⟨s,hs,e⟩:=l j c;obtain ⟨i,hi,rfl⟩:=List.getElem_of_mem hs;refine ⟨H[i],Lm γ, ?_⟩;exact (g i γ hi).2.1.mem_iff.2 (Qak.2 ⟨c,e.symm⟩)
def SRowF (w:World) (base:Nat) (a:Option Addr) (S:List (T3×List T3)):Prop :=
 ∀ i (h:i<S.length),∃ g sa sc,a=Az g∧base≤g∧At w g (i*4) (I S[i].1.1)∧At w g (i*4+1) (I S[i].1.2.1)∧At w g (i*4+2) (I S[i].1.2.2)∧At w g (i*4+3) (.slice sa S[i].2.length sc)∧TRow w sa S[i].2∧∀ q,sa=Az q→base≤q
theorem SRowF.row {S:List (T3×List T3)} (h:SRowF w base a S):SRow w a S:=fun i hi=>by
 obtain ⟨g,c,d,e,_,c0,c1,c2,c3,b,_⟩:=h i hi;exact ⟨g,c,d,e,c0,c1,c2,c3,b⟩
theorem SRowF.kept {w':World} {S:List (T3×List T3)} (h:SRowF w base a S) (b:Bl w w'):SRowF w' base a S:=fun i hi=>by
 obtain ⟨g,f,j,e,c,c0,c1,c2,c3,d,hq⟩:=h i hi;exact ⟨g,f,j,e,c,Qa b c0,Qa b c1,Qa b c2,Qa b c3,d.kept b,hq⟩
theorem SRowF.low {base':Nat} {S:List (T3×List T3)} (h:SRowF w base a S) (f:base'≤base):SRowF w base' a S:=fun i hi=>by
 obtain ⟨g,c,d,e,h1,c0,c1,c2,c3,b,hq⟩:=h i hi;exact ⟨g,c,d,e,γ,c0,c1,c2,c3,b,fun q e=>by have:=hq q e;omega⟩
theorem SRowF.set {S:List (T3×List T3)} (h:SRowF w base a S) {p:Addr} (hp:p.block<base):SRowF (w.setCell p u) base a S:=fun i hi=>by
 obtain ⟨g,c,d,e,h1,c0,c1,c2,c3,b,hq⟩:=h i hi;exact ⟨g,c,d,e,h1,Qo c0 θ,Qo c1 θ,Qo c2 θ,Qo c3 θ,b.far (fun q e=>by have:=hq q e;omega),hq⟩
theorem srow_of {L:List T3} {H:List (T3×List Nat)} {R:List (T3×Value)} (d:w.ownsRow base 107 4 v R.length (rowS R)) (j:R.length=H.length) (m:∀ i (hi:i<R.length) (n:i<H.length),R[i].1=H[i].1∧TrisAt w R[i].2 (tgn L H[i].2)) (l:∀ s∈R,∀ q,s.2.ownBlock=some q→base≤q):∃ a c,v=.slice a H.length c∧SRowF w base a (H.map fun s=>(s.1,tgn L s.2)):=by
 rcases d.2 with ⟨rfl,h0⟩ | ⟨g,e,k,rfl,f,_⟩
 ·refine ⟨none,0,by (try simp only [At,I,Fn,Az,Ad]);rw [← j,h0],fun i hi=>?_⟩;(try simp only [At,I,Fn,Az,Ad] at hi);rw [List.length_map] at hi
  omega
 ·refine ⟨some ⟨g,0,none⟩,e,by (try simp only [At,I,Fn,Az,Ad]);rw [j],fun i hi=>?_⟩;have h:i<H.length:=by simpa using hi
  have b:i<R.length:=γ;obtain ⟨e1,a,c,e2,e3⟩:=m i b h;obtain ⟨r0,r1,r2,r3⟩:=Qbk R i b;(try simp only [At,I,Az]);rw [List.getElem_map]
  refine ⟨g,a,c,rfl,f, ?_, ?_, ?_, ?_,e3,fun q eq=>l R[i] (Lm b) q (by (try simp only [At,I,Fn,Az,Ad]);rw [e2,eq];rfl)⟩
  ·(try simp only);rw [d.cellAt (i*4) γ,r0,e1]
  ·(try simp only);rw [d.cellAt (i*4+1) γ,r1,e1]
  ·(try simp only);rw [d.cellAt (i*4+2) γ,r2,e1]
  ·(try simp only);rw [d.cellAt (i*4+3) γ,r3,e2]
theorem stacks_any (w:World) (G pa:Option Addr) (J O P M K N:Nat) (L pl:List T3) (rv:Value) (h:Nat→Int) (hl:pl.length=L.length) (hT:TRow w G L) (hP:TRow w pa pl) (h0:0<L.length) (hn:L.length≤300) (hS:∀ W,Bl w W→SortsN W L.length rv h) (a7:∀ i j,i<pl.length→j<pl.length→pl.getD i (0,0,0)=pl.getD j (0,0,0)→i≠j→h i≠h j) :
  Cl 118 #[pileV G L.length J O P M K pa N,rv] w fun e w'=>∃ a c H,e=.returned (.slice a H.length c)∧Heap L.length (plcA pl) h H∧SRowF w' w.heap.size a (H.map fun s=>(s.1,tgn L s.2))∧Bl w w':=by
 obtain ⟨n,a6⟩:∃ n,n=L.length:=⟨_,rfl⟩;unfold pileV;rw [← a6];have Z:Hid (n=L.length∧pl.length=n):=⟨a6,γ⟩;have af:Bl w (w.alloc (.cells #[.slice G n J,.map (some O),.map (some P),.slice (Az M) n K,.slice pa n N] 100)):=Qb (Qe _);have aq:=hS _ af
 have CP:Hid (Cl 214 #[.agg #[.slice G n J,.map (some O),.map (some P),.slice (Az M) n K,.slice pa n N]] (w.alloc (.cells #[.slice G n J,.map (some O),.map (some P),.slice (Az M) n K,.slice pa n N] 100)) fun e w'=>∃ g m c S,e=.returned (.slice (Az g) m c)∧PiledTo (w.alloc (.cells #[.slice G n J,.map (some O),.map (some P),.slice (Az M) n K,.slice pa n N] 100)) w' pl g m c S):=by
  have:=piled_any (w.alloc (.cells #[.slice G n J,.map (some O),.map (some P),.slice (Az M) n K,.slice pa n N] 100)) G (Az M) pa n J n K N (some O) (some P) pl (hP.kept af) γ γ;rw [hl,← a6] at this;exact this
 have HT:=H2 hT hP;have HD:=Hd a7;have ap:=Hd aq;obtain ⟨bt,b5,b6,b7,b8⟩:=info_parts inf98;have HI:=H4 b5 b6 b7 b8;have cd:n≤300:=γ;have ca:0<n:=γ;clear hT hP hS a7 aq af hl a6 h0 hn b5 b6 b7 b8;go_enter Tryz.func118,Tryz.ntmps118;go_wp2_with (go_at_call 214;refine CP.out.mono ?_;rintro e w1 ⟨g,m,c,S,rfl,ab⟩;obtain rfl:=ab.len;have f:=Hd ab;clear ab)
 obtain ⟨B,X⟩:∃ B,B=w.alloc (.cells #[.slice G n J,.map (some O),.map (some P),.slice (Az M) n K,.slice pa n N] 100):=⟨_,rfl⟩;have cf:B.heap.size=w.heap.size+1:=by rw [X];simp
 have Q:Hid (At B w.heap.size 0 (.slice G n J)∧At B w.heap.size 1 (.map (some O))∧At B w.heap.size 2 (.map (some P))∧At B w.heap.size 3 (.slice (Az M) n K)∧At B w.heap.size 4 (.slice pa n N)):=by
  rw [X];exact ⟨δ,δ,δ,δ,δ⟩
 have a2:Hid (Bl w B):=by rw [X];exact Qb (Qe _)
 rw [← X] at f ap;obtain ⟨z,hz⟩:∃ z,z=w1.heap.size:=⟨_,rfl⟩;have az:∀ e,(Gn pl pl.length e).length=(Gk pl e).length:=fun e=>by rw [Gn_eq,List.length_map];rfl
 have p:Hid (Far B z g S∧B.heap.size≤z∧(∀ s∈S,Gk pl s.1≠[])∧S.length≤300):=by
  have br:g<w1.heap.size:=by
   obtain ⟨s,hs,_⟩:=f.out.all 0 (by have:=Z.out.2;omega);exact bk (f.out.row 0 (List.length_pos_of_mem hs))
  refine ⟨⟨by rw [hz];exact br,fun s hs=>?_,f.out.far⟩,by rw [hz];exact f.out.b.size,fun s hs e=>?_, ?_⟩
  ·have h1:=(f.out.own s hs).lt s.2.1 rfl;exact ⟨by rw [hz];exact h1.2,h1.1,f.out.off s hs⟩
  ·refine f.out.ne s hs ?_;have:=az s.1;rw [e] at this;exact List.length_eq_zero_iff.1 this
  ·have h1:=sub_lenP (S.map (fun s=>s.1)) pl (by
    refine List.pairwise_map.2 (f.out.ord.imp ?_);intro a b h e;exact Jr b.1 (by rw [e] at h;exact h)) (fun e he=>by
    obtain ⟨s,hs,rfl⟩:=List.mem_map.1 he;have b9:=f.out.ne s hs;rw [Gn_eq] at b9;obtain ⟨k,hk⟩:=List.exists_mem_of_ne_nil (Gk pl s.1) (fun e=>b9 (by show List.map _ (Gk pl s.1)=[];rw [e];rfl));have:=Qak.1 hk;rw [← this.2,List.getD_eq_getElem?_getD,List.getElem?_eq_getElem this.1];exact Lm _)
   rw [List.length_map] at h1;have:=Z.out.2;omega
 have ao:Hid (STW B w1 z g SN L pl h S 0 [] []):=by
  have:STW B w1 z g SN L pl h S 0 [] []:=by
   refine ⟨fun i hi=>?_,fun i hi _=>own_nw (f.out.own S[i] (Lm hi)),⟨by simp [rowS],Or.inl ⟨rfl,rfl⟩⟩,⟨rfl,rfl⟩,fun i hi=>by simp at hi,fun s hs=>by simp at hs,fun i hi=>by simp at hi,f.out.b,γ⟩;show World.cell? _ _=_
   rw [f.out.row i hi,az]
  exact this
 clear X hz;go_wp2;go_loopg [5,11] S.length (fun gk s5 bu wx=>∃ (k:Nat) (v:Value) (H:List (T3×List Nat)) (R:List (T3×Value)),k≤S.length∧gk=S.length - k∧v=s5∧bu=I (k:Int)∧STW B wx z g v L pl h S k H R)
 case atStart=>exact ⟨0,_,[],[],γ,rfl,rfl,rfl,ao.out⟩
 case round =>
  clear ao;obtain ⟨k,v,H,R,hk,rfl,rfl,rfl,hW⟩:=hrel;have A:=Hd hW;clear hW;by_cases h1:k<S.length
  ·have i1:(k:Int)<(S.length:Int):=γ;have i0:(0:Int)≤(k:Int):=γ;have c0:=A.out.row k h1;have zg:=Bt c0;have C:=p.out.1.s S[k] (Lm h1);have T:=p.out.2.2.1 S[k] (Lm h1);have CS:=ap.out wr S[k].2.1 S[k].2.2 (Gk pl S[k].1) A.out.b C.2.1 T (by have:=Gk_len pl S[k].1;have:=Z.out.2;omega) (fun j hj=>by have:=(Qak.1 hj).1;have:=Z.out;omega) (A.out.left k h1 (Nr _));obtain ⟨gb,ai⟩:∃ gb,gb=S[k].2.1:=⟨_,rfl⟩;obtain ⟨cb,ah⟩:∃ cb,cb=S[k].2.2:=⟨_,rfl⟩;obtain ⟨nb,aj⟩:∃ nb,nb=(Gk pl S[k].1).length:=⟨_,rfl⟩;rw [← ai,← ah,← aj] at c0 CS;have bn:=Hd CS;have F:=H3 ai ah aj;clear CS C ai ah aj T;go_wp2_with (go_at_call 215;refine bn.out.mono ?_;rintro e w2 ⟨rfl,R',hp,hs,hN,ay⟩;have l:=H4 hp hs hN ay;clear hp hs hN ay)
   have C:=p.out.1.s S[k] (Lm h1);have T:=p.out.2.2.1 S[k] (Lm h1);have D:Bl B w2:=A.out.b.grown l.out.2.2.2 A.out.b.size (fun r e=>by cases e;rw [F.out.1];exact C.2.1);have ag:Bl w w2:=a2.out.trans (D.mono a2.out.size);have p0:=Qa D Q.out.1;have p1:=Qa D Q.out.2.1;have p2:=Qa D Q.out.2.2.1;have p3:=Qa D Q.out.2.2.2.1;have p4:=Qa D Q.out.2.2.2.2;have ac:R'.length=nb:=by rw [F.out.2.2];exact l.out.1.length_eq
   have U:R'≠[]:=fun e=>T (by have:=l.out.1;rw [e] at this;exact this.symm.eq_nil);have ae:0<R'.length:=List.length_pos_iff.2 U;obtain ⟨j,hj⟩:∃ j,j=R'[0]:=⟨_,rfl⟩;have r0:=(l.out.2.2.1 0 ae).1;have E:=Qak.1 (l.out.1.mem_iff.1 (Lm ae));rw [← hj] at r0 E;obtain ⟨gp,rfl,t0,t1,t2⟩:=(HT.out.2.kept ag) j E.1;have ba:pl[j]=S[k].1:=by rw [← E.2,List.getD_eq_getElem?_getD,List.getElem?_eq_getElem E.1];rfl
   rw [ba] at t0 t1 t2;obtain ⟨x,hx⟩:∃ x,x=S[k].1.1:=⟨_,rfl⟩;obtain ⟨y,hy⟩:∃ y,y=S[k].1.2.1:=⟨_,rfl⟩;obtain ⟨t,ht⟩:∃ t,t=S[k].1.2.2:=⟨_,rfl⟩;rw [← hx] at t0;rw [← hy] at t1;rw [← ht] at t2;have aa:=H3 hx hy ht;have j1:(j:Int)<(n:Int):=by have:=Z.out.2;have:=E.1;omega
   have j0:(0:Int)≤(j:Int):=γ;have cg:(0:Int)<(nb:Int):=γ;have ch:0<nb:=γ;have zp:=Bt p0;have zb:=Bt r0;have zt:=Bt t0
   have CN:Hid (∀ W:World,Bl w2 W→Cl 217 #[.agg #[.slice G n J,.map (some O),.map (some P),.slice (Az M) n K,.slice (Az gp) n N],.slice (Az gb) nb cb] W fun e w'=>∃ a c,e=.returned (.slice a nb c)∧TRow w' a (tgn L R')∧Bl W w'∧∀ g,a=Az g→W.heap.size≤g∧g<w'.heap.size):=fun W hW=>by
    have:=named_any W G J O P M K N gb 0 cb (Az gp) L R' ((HT.out.1.kept ag).kept hW) (fun i hi=>by rw [Nat.zero_add];exact Qa hW (l.out.2.2.1 i hi).1) (fun j hj=>by have:=(Qak.1 (l.out.1.mem_iff.1 hj)).1;have:=Z.out;omega) (by have:=Z.out;have:=Gk_len pl S[k].1;have:=F.out.2.2;omega) (by have:=Z.out.1;omega);unfold pileV at this;rw [← Z.out.1,ac] at this;exact this
   have am:=H2 U ac;have an:=Hd A.out.len.1;have bs:z≤w2.heap.size:=Nt A.out.zz l.out.2.2.2.size
   have bo:Hid (w2.ownsRow z 107 4 v R.length (rowS R)):=A.out.own.kept l.out.2.2.2 (by
    cases hu:v.ownBlock with
    | none=>exact Or.inl rfl
    | some q =>
     refine Or.inr (fun e1=>?_);have h5:=(A.out.own.lt q hu).1;have h6:=F.out.1;have h7:=C.1;simp at e1;omega)
   have bw:k≤300:=by have:=p.out.2.2.2;omega
   have u:Hid (∀ b,b<z→some b≠v.ownBlock):=fun b hb e=>by have:=(A.out.own.lt b e.symm).1;omega
   have Y:w.heap.size<z:=by have:=p.out.2.1;omega
   have bv:gb<z:=by rw [F.out.1];exact C.1
   have ak:gp<z:=by
    obtain ⟨g',e9,u0,_⟩:=HT.out.2 j E.1
    cases e9;have u9:=Bt u0;omega
   clear hx hy ht ba E ac U ae hj D ag C T
   go_region_held3 (fun w'=>At w' w.heap.size 0 (.slice G n J)∧At w' w.heap.size 1 (.map (some O))∧At w' w.heap.size 2 (.map (some P))∧At w' w.heap.size 3 (.slice (Az M) n K)∧At w' w.heap.size 4 (.slice (Az gp) n N)∧At w' gb 0 (I (j:Int))∧At w' gp (j*3) (I x)∧At w' gp (j*3+1) (I y)∧At w' gp (j*3+2) (I t))
    ((refine ⟨?_, ?_, ?_, ?_, ?_, ?_, ?_, ?_, ?_⟩ <;> (first | (with_reducible (repeat (first | assumption | refine Qk ?_ | refine Qq ?_));done) | (simp [go_sem];done))))
    (first
     | (go_at_call 217;refine (CN.out _ φ).mono ?_;rintro e w8 ⟨a8,c8,rfl,au,aw,ax⟩;have o:Bl w2 w8:=Qc φ aw;have HQ:Hid (TRow w8 a8 (tgn L R')∧Bl w2 w8∧∀ g,a8=some ⟨g,0,none⟩→w2.heap.size≤g∧g<w8.heap.size):=⟨au,o,ax⟩;have bb:=Qa o p0;have bc:=Qa o p1;have be:=Qa o p2;have bf:=Qa o p3;have bg:=Qa o p4;have bh:=Qa o r0;have bi:=Qa o t0;have bj:=Qa o t1;have bm:=Qa o t2;have ce:z≤w8.heap.size:=Nt bs o.size;clear au aw ax o)
     | (refine step_append_lies _ Ω (.tmp 19) (.tmp 31) 27 Ω z 107 bt (.agg #[I 0,I 0,I 0,SN]) 4 48 Tryz.underlying27 HI.out.1 HI.out.2.1 HI.out.2.2.1 HI.out.2.2.2 rfl ψ v R.length (rowS R) Ω (Qj bo.out (Qb HQ.out.2.1)) ⟨w8.heap.size,0,none⟩ 1 1 [I x,I y,I t,.slice a8 nb c8] Ω rfl (cell_four _ _ _ _ _ _) (four_one _ _ _ _ _ _) ψ (by have:=an.out;unfold maxLen;omega) (by have:=an.out;omega) ω (w8.heap.size+1) ξ ?_;intro gq bq W3 V d av bz;have s0:=d.cell (Qk bb) (u.out _ Y);have s1:=d.cell (Qk bc) (u.out _ Y);have s2:=d.cell (Qk be) (u.out _ Y);have s3:=d.cell (Qk bf) (u.out _ Y);have s4:=d.cell (Qk bg) (u.out _ Y);have s5:=d.cell (Qk bh) (u.out _ bv);have s6:=d.cell (Qk bi) (u.out _ ak);have s7:=d.cell (Qk bj) (u.out _ ak);have s8:=d.cell (Qk bm) (u.out _ ak);have bp:Hid (STW B W3 z g (.slice (some ⟨gq,0,none⟩) (R.length+1) bq) L pl h S (k+1) (H ++ [(S[k].1,R')]) (R ++ [(S[k].1,.slice a8 nb c8)])):=(A.out.next h1 p.out.1 p.out.2.1 (F.out.1 ▸ l.out.2.2.2) l.out.1 l.out.2.1 HQ.out.2.1 HQ.out.1 (by rw [← am.out.2];simp [tgn]) HQ.out.2.2 d (by rw [← aa.out.1,← aa.out.2.1,← aa.out.2.2];exact V) av am.out.1);clear V d av))
   all_goals
    go_wp2;go_roundg (S.length - (k+1))
    case measure=>omega
    case rel=>exact ⟨k+1,_,_,_,γ,rfl,rfl,σ,bp.out⟩
  ·have i1:¬ (k:Int)<(S.length:Int):=γ;obtain rfl:k=S.length:=γ;obtain ⟨a,c9,rfl,ar⟩:=srow_of A.out.own (by rw [A.out.len.1,A.out.len.2]) A.out.tris (fun s hs q hq=>(A.out.off s hs q hq).1)
   have HE:Hid (Heap n (plcA pl) h H∧SRowF wr w.heap.size a (H.map fun s=>(s.1,tgn L s.2))∧Bl w wr):=by
    refine ⟨?_,ar.low (by have:=p.out.2.1;omega),a2.out.trans (A.out.b.mono a2.out.size)⟩;have:=heap_of (_L:=L) A.out.len.2 A.out.done f.out.ord p.out.2.2.1 f.out.all HD.out;rw [Z.out.2] at this;exact this
   clear ar;go_wp2;go_ret;exact ⟨a,c9,H,rfl,HE.out⟩
def rowM (M:Nat→M6):Nat→List Value
 | 0=>[]
 | n+1=>rowM M n ++ [I (M n).1,I (M n).2.1,I (M n).2.2.1,I (M n).2.2.2.1,I (M n).2.2.2.2.1,I (M n).2.2.2.2.2]
theorem Km (M:Nat→M6):∀ n,(rowM M n).length=n*6
 | 0=>rfl
 | n+1=>by
  unfold rowM;rw [List.length_append,Km M n];simp;omega
theorem rowM_at (M:Nat→M6):∀ n i,i<n→(rowM M n)[i*6]?=some (I (M i).1)∧(rowM M n)[i*6+1]?=some (I (M i).2.1)∧(rowM M n)[i*6+2]?=some (I (M i).2.2.1)∧(rowM M n)[i*6+3]?=some (I (M i).2.2.2.1)∧(rowM M n)[i*6+4]?=some (I (M i).2.2.2.2.1)∧(rowM M n)[i*6+5]?=some (I (M i).2.2.2.2.2)
 | 0,i,h=>by omega
 | n+1,i,h=>by
  unfold rowM;have a:=Km M n;by_cases q:i<n
  ·obtain ⟨h0,h1,h2,h3,h4,h5⟩:=rowM_at M n i q;refine ⟨?_, ?_, ?_, ?_, ?_, ?_⟩ <;> (rw [List.getElem?_append_left γ];assumption)
  ·have e:i=n:=γ;subst e;refine ⟨?_, ?_, ?_, ?_, ?_, ?_⟩ <;> (rw [List.getElem?_append_right γ,a];simp [Nat.add_sub_cancel_left])
theorem rowM_one (M:Nat→M6):∀ n,∀ u∈rowM M n,u.oneCell'=true
 | 0,u,h=>by simp [rowM] at h
 | n+1,u,h=>by
  unfold rowM at h;rcases List.mem_append.1 h with h | h
  ·exact rowM_one M n u h
  ·simp at h;rcases h with rfl | rfl | rfl | rfl | rfl | rfl <;> rfl
theorem mrow_cells (h:MRow w g n M):∀ j u,(rowM M n)[j]?=some u→w.cell? ((⟨g,0,none⟩:Addr).add j)=some u:=by
 intro j u a;have b:(⟨g,0,none⟩:Addr).add j=⟨g,j,none⟩:=by unfold Addr.add;split <;> simp_all
 rw [b]
 have f:j<n*6:=by
  have:=(List.getElem?_eq_some_iff.1 a).1;rw [Km] at this;exact this
 have hi:j / 6<n:=γ;obtain ⟨r0,r1,r2,r3,c,d⟩:=rowM_at M n (j / 6) hi;obtain ⟨⟨c0,c1,c2,c3,c4,c5⟩,_⟩:=h (j / 6) hi;have h6:j % 6=0∨j % 6=1∨j % 6=2∨j % 6=3∨j % 6=4∨j % 6=5:=γ;rcases h6 with q | q | q | q | q | q
 ·have e:j=j / 6*6:=γ;rw [e] at a ⊢;rw [r0] at a;rw [← a];exact c0
 ·have e:j=j / 6*6+1:=γ;rw [e] at a ⊢;rw [r1] at a;rw [← a];exact c1
 ·have e:j=j / 6*6+2:=γ;rw [e] at a ⊢;rw [r2] at a;rw [← a];exact c2
 ·have e:j=j / 6*6+3:=γ;rw [e] at a ⊢;rw [r3] at a;rw [← a];exact c3
 ·have e:j=j / 6*6+4:=γ;rw [e] at a ⊢;rw [c] at a;rw [← a];exact c4
 ·have e:j=j / 6*6+5:=γ;rw [e] at a ⊢;rw [d] at a;rw [← a];exact c5
theorem own_mrow (h:w.ownsRow base 91 6 v n (rowM M n)) (k:0<n):∃ g c,v=.slice (some ⟨g,0,none⟩) n c∧MRow w g n M∧base≤g:=by
 rcases h.2 with ⟨_,h0⟩ | ⟨g,b,d,rfl,e,h3,_⟩
 ·omega
 ·have a:∀ o,w.frozen? ⟨g,o,none⟩=false:=fun o=>by simp [World.frozen?,h3]
  refine ⟨g,b,rfl,fun i hi=>⟨?_,⟨a _,a _,a _,a _,a _,a _⟩⟩,e⟩;obtain ⟨r0,r1,r2,r3,f,j⟩:=rowM_at M n i hi;refine ⟨?_, ?_, ?_, ?_, ?_, ?_⟩
  ·(try simp only [At,I]);rw [h.cellAt (i*6) γ,r0]
  ·(try simp only [At,I]);rw [h.cellAt (i*6+1) γ,r1]
  ·(try simp only [At,I]);rw [h.cellAt (i*6+2) γ,r2]
  ·(try simp only [At,I]);rw [h.cellAt (i*6+3) γ,r3]
  ·(try simp only [At,I]);rw [h.cellAt (i*6+4) γ,f]
  ·(try simp only [At,I]);rw [h.cellAt (i*6+5) γ,j]
theorem cloneM_any (w:World) (g n c:Nat) (M:Nat→M6) (d:MRow w g n M) (h0:0<n) (i:n≤300) :
  Cl 117 #[.slice (Az g) n c] w fun e w'=>∃ a b,e=.returned (.slice (Az a) n b)∧MRow w' a n M∧w.heap.size≤a∧Bl w w':=by
 refine (clone_maps w g 0 n c (rowM M n) (Km M n) (mrow_cells d) (rowM_one M n) γ).mono ?_;rintro e w' ⟨v,rfl,h,f⟩;obtain ⟨a,b,rfl,h1,h2⟩:=own_mrow h h0;exact ⟨a,b,rfl,h1,h2,f⟩
def hT (h:Nat→Int) (i q:Nat):Int:=if q<i then -h q else h q
def hneg (h:Nat→Int) (n:Nat):List Int:=(List.range n).map fun i=>-h i
theorem hv_congr {f g:Nat→Int} (h:∀ q,q<n→f q=g q):hv f n=hv g n:=by
 unfold hv;refine List.map_congr_left fun q hq=>?_;rw [h q (List.mem_range.1 hq)]
theorem hv_put (h:Nat→Int) (_hi:i<n):(hv (hT h i) n).set i (I (-h i))=hv (hT h (i+1)) n:=by
 apply List.ext_getElem
 ·simp [hv]
 ·intro q h1 h2;have hq:q<n:=by simpa [hv] using h2
  rw [List.getElem_set];simp only [hv,List.getElem_map,List.getElem_range];unfold hT;by_cases e:i=q
  ·subst e;rw [if_pos rfl,if_pos γ]
  ·rw [if_neg e];by_cases e2:q<i
   ·rw [if_pos e2,if_pos γ]
   ·rw [if_neg e2,if_neg γ]
structure Tof (w1 w2 wx:World) (nn:Nat) (M:Nat→M6) (h:Nat→Int) (i gh hc:Nat) (u:Value):Prop where
 ms:wx.ownsRow w2.heap.size 91 6 u i (rowM (tz M) i)
 hs:wx.ownsRow w1.heap.size 3 1 (.slice (Az gh) nn hc) nn (hv (hT h i) nn)
 b:Bl w1 wx
 sz:w2.heap.size≤wx.heap.size
 lo:gh<w2.heap.size
 le:w1.heap.size≤w2.heap.size
theorem cell_six_new (w:World) (a b c d e f:Int):∀ j u,([I a,I b,I c,I d,I e,I f])[j]?=some u→(w.alloc (.cells #[I a,I b,I c,I d,I e,I f] 91)).cell? ((⟨w.heap.size,0,none⟩:Addr).add j)=some u:=by
 intro j u g
 have h:j<6:=by
  have:=(List.getElem?_eq_some_iff.1 g).1;simpa using this
 match j,h with
 | 0,_ | 1,_ | 2,_ | 3,_ | 4,_ | 5,_=>simp at g;subst g;simp [go_sem,Addr.add]
theorem six_one (a b c d e f:Int):∀ u∈([I a,I b,I c,I d,I e,I f]),u.oneCell'=true:=by
 intro u g;simp at g;rcases g with rfl | rfl | rfl | rfl | rfl | rfl <;> rfl
theorem hv_at (h:Nat→Int) (hi:i<n):(hv h n)[i]?=some (I (h i)):=by
 unfold hv;rw [List.getElem?_map,List.getElem?_range hi];rfl
theorem own_grow {w':World} {e:TypeId} {size:Nat} {d:List Value} {row:Option Nat} (h:w.ownsRow base e size v n d) (f:w.grownBy w' row) (a:v.ownBlock=none∨v.ownBlock≠row):w'.ownsRow base e size v n d:=by
 refine ⟨h.1, ?_⟩;rcases h.2 with ⟨h1,h2⟩ | ⟨g,b,c,h1,h2,h3,h4⟩
 ·exact .inl ⟨h1,h2⟩
 ·refine .inr ⟨g,b,c,h1,h2, ?_,h4⟩
  have hg:g<w.heap.size:=by
   rcases Nat.lt_or_ge g w.heap.size with h | h
   ·exact h
   ·rw [Array.getElem?_eq_none h] at h3;cases h3
  rw [f.block g hg (by
   rw [h1] at a;rcases a with e | e
   ·simp [Value.ownBlock] at e
   ·simpa [Value.ownBlock] using e)]
  exact h3
theorem Tof.end_ {w1 f d:World} {b c e:Nat} (q:Tof w1 f d b M h b c e u):Row d (Az c) (hneg h b):=fun i hi=>by
 have a:i<b:=by simpa [hneg] using hi
 refine ⟨c,0,rfl, ?_⟩;show World.cell? _ _=_
 rw [q.hs.cellAt (0+i) γ,Nat.zero_add,hv_at _ a];simp [hneg,hT,a]
theorem Tof.put {w1 m p d:World} {c a j cq:Nat} (q:Tof w1 m p c M h i a j u) (hi:i<c) (hg:p.grownBy d u.ownBlock) (o:d.ownsRow m.heap.size 91 6 (.slice (Az g) (i+1) cq) (i+1) (rowM (tz M) (i+1))) :
  Tof w1 m (d.setCell ⟨a,i,none⟩ (I (-h i))) c M h (i+1) a j (.slice (Az g) (i+1) cq):=by
 have s:=q.lo
 have l:some a≠u.ownBlock:=fun e=>by
  have:=Qw q.ms a e.symm;omega
 have hq:=(o.lt g rfl).1;have h1:d.ownsRow w1.heap.size 3 1 (.slice (Az a) c j) c (hv (hT h i) c):=own_grow q.hs hg (Or.inr (by simpa [Value.ownBlock] using l));obtain ⟨o1,f⟩:=h1.stored i (I (-h i));rw [hv_put h hi] at o1;have n:Bl w1 d:=q.b.grown hg q.b.size (fun k e=>by have:=Qw q.ms k e;have:=q.le;omega);have r:=(q.hs.lt a rfl).1;refine ⟨own_grow o f (Or.inr (by simp [Value.ownBlock];omega)),o1,n.grown f n.size (fun k e=>by simp at e;omega), ?_,q.lo,q.le⟩;have:=q.sz;have:=hg.size;have:=f.size;omega
theorem turnOf_any (W H b off G m n l d gp op mc sl sc:Nat) (cb sp:Option Addr) (zs ks:List Int) (L:List T3) (M:Nat→M6) (h:Nat→Int) (w:World)
  (CT:Hid (∀ V:World,Bl w V→Cl 51 #[.agg #[I (W:Int),I (H:Int),.slice (Ad b off) m G,.slice cb n l]] V fun e w'=>∃ a c,e=.returned (.slice a d c)∧TRow w' a L∧Bl V w'))
  (CO:Hid (∀ V:World,Bl w V→Cl 37 #[.agg #[I (W:Int),I (H:Int),.slice (Ad b off) m G,.slice cb n l]] V fun e w'=>∃ a' ca' b' cb',e=.returned (.agg #[I (W:Int),I (H:Int),.slice a' m ca',.slice b' n cb'])∧RowF w' V.heap.size a' zs∧RowF w' V.heap.size b' ks∧Bl V w'))
  (CV:Hid (∀ V:World,Bl w V→Cl 56 #[.agg #[I (W:Int),I (H:Int),.slice (Ad b off) m G,.slice cb n l,.slice (Ad gp op) d mc,.slice sp sl sc]] V fun e w'=>∃ u,e=.returned u∧w'.ownsRow V.heap.size 3 1 u d (hv h d)∧Bl V w'))
  (hM:MRowG w (Ad gp op) d M) (ap:∀ i,i<d→mapM (M i)=true) (hh:∀ i,i<d→0≤h i∧h i≤300) (b5:d=L.length) (h0:0<d) (ay:d≤256) (ax:∀ t∈L,(0≤t.1∧t.1≤8)∧(0≤t.2.1∧t.2.1≤8)∧(0≤t.2.2∧t.2.2≤3)) (az:L.Nodup) :
  Cl 15 #[.agg #[I (W:Int),I (H:Int),.slice (Ad b off) m G,.slice cb n l,.slice (Ad gp op) d mc,.slice sp sl sc]] w fun e w'=>(e=.returned (.tuple #[.agg #[I 0,I 0,SN,SN,SN,SN],.bool false])∧(∃ i,i<L.length∧¬ MOk1 L (tz M) i)∧Bl w w')∨∃ a' ca' b' cb' g c t u,e=.returned (.tuple #[.agg #[I (W:Int),I (H:Int),.slice a' m ca',.slice b' n cb',.slice (Az g) d c,.slice t (trS L (hpN (mvP L (tz M)) (hvs (hneg h d)) d)).length u],.bool true])∧(∀ i,i<L.length→MOk1 L (tz M) i)∧RowF w' w.heap.size a' zs∧RowF w' w.heap.size b' ks∧MRow w' g d (tz M)∧SRowE w' w.heap.size t (trS L (hpN (mvP L (tz M)) (hvs (hneg h d)) d))∧Bl w w':=by
 obtain ⟨i6,hi,b6,b8,b9⟩:=info_parts inf59;have HI:=H4 hi b6 b8 b9;have U:=H6 hM ap hh b5 ax az;clear hi b6 b8 b9 hM ap hh b5 ax az;go_enter Tryz.func15,Tryz.ntmps15;go_upto_region 2 with (go_at_call 51;refine (CT.out _ Ψ).mono ?_;rintro e w1 ⟨a4,c4,rfl,au,hb⟩;have j:Hid (TRow w1 a4 L∧Bl w w1∧BoxR w1 (w.heap.size+1)∧(At w1 w.heap.size 0 (I (W:Int))∧At w1 w.heap.size 1 (I (H:Int))∧At w1 w.heap.size 2 (.slice (Ad b off) m G)∧At w1 w.heap.size 3 (.slice cb n l)∧At w1 w.heap.size 4 (.slice (Ad gp op) d mc)∧At w1 w.heap.size 5 (.slice sp sl sc))):=⟨au,Qc β2 hb,(boxR_new _).kept hb,Qa hb δ,Qa hb δ,Qa hb δ,Qa hb δ,Qa hb δ,Qa hb δ⟩;clear au hb)
 obtain ⟨g4,rfl⟩:∃ g,a4=Az g:=by
  obtain ⟨g,e,_⟩:=j.out.1 0 (by rw [← U.out.2.2.2.1];exact h0);exact ⟨g,e⟩
 obtain ⟨x0,x1,x2,x3,x4,x5⟩:=j.out.2.2.2;have zb:=Bt x0;go_upto_region 4 with (go_at_call 56;refine (CV.out _ j.out.2.1).mono ?_;rintro e w2 ⟨u5,rfl,aq,P⟩;have H5:=H2 aq P;clear aq P)
 clear x0 x1 x2 x3 x4 x5 zb;obtain ⟨r,hc,rfl⟩:=Yw H5.out.1 h0
 have HO:Hid (Tof w1 w2 w2 d M h 0 r hc SN):=by
  refine ⟨by simpa [rowM] using World.ownsRow_nil _ _ _ _, ?_,H5.out.2,Nr _,(H5.out.1.lt r rfl).2,H5.out.2.size⟩;have e:hv (hT h 0) d=hv h d:=hv_congr fun q _=>by simp [hT]
  rw [e];exact H5.out.1
 clear H5;go_wp2;go_loopg [6,7] d (fun gk s6 s7 wx=>∃ (i:Nat) (u:Value),i≤d∧gk=d - i∧u=s6∧s7=I (i:Int)∧(∀ q,q<i→MOk1 L (tz M) q)∧Tof w1 w2 wx d M h i r hc u)
 case atStart=>exact ⟨0,_,γ,rfl,rfl,rfl,fun q hq=>by omega,HO.out⟩
 case round =>
  clear HO;obtain ⟨i,u,hi,rfl,rfl,rfl,hQ,hS⟩:=hrel;have f:=Hd hS;have HQ:=Hd hQ;clear hS hQ;by_cases h1:i<d
  ·have i1:(i:Int)<(d:Int):=γ;have i0:(0:Int)≤(i:Int):=γ;have a8:i<L.length:=by rw [← U.out.2.2.2.1];exact h1
   obtain ⟨bf,bm,ep,y0,y1,y2,y3,y4,y5⟩:=((U.out.1.kept j.out.2.1).kept f.out.b) i h1;obtain ⟨rfl,rfl⟩:bf=gp∧bm=op:=by simpa [eq_comm] using ep
   clear ep;obtain ⟨A,B,C,D,E,F,hm⟩:∃ A B C D E F,M i=(A,B,C,D,E,F):=⟨_,_,_,_,_,_,rfl⟩;rw [hm] at y0 y1 y2 y3 y4 y5;dsimp only at y0 y1 y2 y3 y4 y5;have zg:=Bt y0;have ah:mapM (A,B,C,D,E,F)=true:=by rw [← hm];exact U.out.2.1 i h1
   have ak:Hid (tz M i=(-A, -B,C,D, -E,F)):=by
    show tz M i=(-A, -B,C,D, -E,F)
    unfold tz;rw [hm];exact Qai A B C D E F
   have ad:Hid (mapM (-A, -B,C,D, -E,F)=true):=by
    show mapM (-A, -B,C,D, -E,F)=true
    have h9:=map_mz ah;rw [Qai A B C D E F] at h9;exact h9
   have ba:Hid (∀ V:World,Rt 60 #[.agg #[I A,I B,I C,I D,I E,I F],.agg #[I (-1),I 0,I 0,I 1,I 0,I 0]] V (.agg #[I (-A),I (-B),I C,I D,I (-E),I F])):=fun V=>by
    have e9:=Qai A B C D E F;simp only [aft,mz,Prod.mk.injEq] at e9;obtain ⟨f0,f1,f2,f3,f4,f5⟩:=e9;obtain ⟨b1,b2,_⟩:=Ju ah;have:=Qas A B C D E F (-1) 0 0 1 0 0 V b1 (by unfold Sm;omega) b2 (by unfold Ef;omega);rw [f0,f1,f2,f3,f4,f5] at this;exact this
   obtain ⟨d0,d1,d2,d3,d4,d5⟩:=j.out.2.2.2;replace d0:=Qa f.out.b d0;replace d1:=Qa f.out.b d1;replace d2:=Qa f.out.b d2;replace d3:=Qa f.out.b d3;replace d4:=Qa f.out.b d4;replace d5:=Qa f.out.b d5;have zd:=Bt d0;clear hm ah;go_upto_region 8 with (go_at_call 60;refine (ba.out _).mono ?_;rintro e w5 ⟨rfl,P⟩;have ae:=Hd P;clear P)
   refine Qi (fun Z ag=>?_);obtain ⟨B9,N⟩:∃ b,b=w5.heap.size:=⟨_,rfl⟩
   have s:Hid (Bl wr Z):=by
    show Bl wr Z
    rw [ag];with_reducible repeat' (first | exact ae.out | refine Qh ?_ ?_ | refine Qb ?_)
    all_goals (have:=ae.out.size;first | omega | (dsimp only;omega))
   have X6:Hid (At Z B9 0 (I (-A))∧At Z B9 1 (I (-B))∧At Z B9 2 (I C)∧At Z B9 3 (I D)∧At Z B9 4 (I (-E))∧At Z B9 5 (I F)):=by
    rw [ag,N];refine ⟨?_, ?_, ?_, ?_, ?_, ?_⟩ <;> simp [go_sem]
   rw [← N];clear ag N ae d0 d1 d2 d3 d4 d5 zd y0 y1 y2 y3 y4 y5 zg;obtain ⟨gA,eA,t0,t1,t2⟩:=((j.out.1.kept f.out.b).kept s.out) i a8;obtain rfl:gA=g4:=by simpa [eq_comm] using eA
   clear eA;obtain ⟨x,y,k,ht⟩:∃ x y k,L[i]=(x,y,k):=⟨_,_,_,rfl⟩;rw [ht] at t0 t1 t2;dsimp only at t0 t1 t2;have zt:=Bt t0;obtain ⟨X,Y,K,hX⟩:∃ X Y K,mvt (-A, -B,C,D, -E,F) (x,y,k)=(X,Y,K):=⟨_,_,_,rfl⟩
   have aj:Hid (∀ V:World,Rt 61 #[.agg #[I (-A),I (-B),I C,I D,I (-E),I F]] V (.bool true)):=fun V=>by
    refine (mapMay_any (-A) (-B) C D (-E) F V).mono ?_;rintro e w' ⟨rfl,o,rfl⟩;have h9:mapB (-A) (-B) C D (-E) F=true:=ad.out;rw [h9];exact ⟨rfl,Qb (Qe _)⟩
   have ai:Hid (∀ V:World,Rt 54 #[.agg #[I (-A),I (-B),I C,I D,I (-E),I F],.agg #[I x,I y,I k]] V (.agg #[I X,I Y,I K])):=fun V=>by
    have:=Yh (-A, -B,C,D, -E,F) (x,y,k) V ad.out (by rw [← ht];exact U.out.2.2.2.2.1 _ (Lm a8));rw [hX] at this;exact this
   have HG:Hid (MOk1 L (tz M) i↔triB X Y K=true):=by
    show MOk1 L (tz M) i↔triB X Y K=true
    unfold MOk1;rw [ak.out,List.getD_eq_getElem?_getD,List.getElem?_eq_getElem a8];simp only [Option.getD_some];rw [ht,hX];exact ⟨fun q=>q.2,fun q=>⟨ad.out,q⟩⟩
   obtain ⟨x0,x1,x2,x3,x4,x5⟩:=X6.out;have z9:=Bt x0;clear ht hX
   cases hT:triB X Y K
   ·have ab:Hid (∀ V:World,Rt 62 #[.agg #[I X,I Y,I K]] V (.bool false)):=fun V=>by
     refine (Up X Y K V).mono ?_;rintro e w' ⟨rfl,o,rfl⟩;rw [hT];exact ⟨rfl,Qb (Qe _)⟩
    have bc:Hid (¬ MOk1 L (tz M) i):=fun q=>by
     have:=HG.out.1 q;rw [hT] at this
     cases this
    clear hT;obtain ⟨kc,kn⟩:=kcn Z;refine wk ?_;repeat (go_big_quiet_step (first | (go_at_call 61;exact Qf (aj.out _)) | (go_at_call 54;exact Qf (ai.out _)) | (go_at_call 62;exact Qf (ab.out _))))
    refine kq1 (fun V8 hq=>?_);clear kc kn;obtain ⟨⟨r0,r1,r2,r3,r4,r5⟩,J⟩:=(((j.out.2.2.1.kept f.out.b).kept s.out).kept hq);have zr:=Bt r0;have bn:=J 0;have bo:=J 1;have bp:=J 2;have bq:=J 3;have br:=J 4;have bs:=J 5;clear J;go_wp2;refine bodyPost_ret (v:=.tuple #[.agg #[I 0,I 0,SN,SN,SN,SN],.bool false]) (by simp [results,Tryz.results15,go_sem, *]) rfl (Or.inl ⟨rfl,⟨i,a8,bc.out⟩, ?_⟩);have N:Bl w V8:=Qc j.out.2.1 (Qc f.out.b (Qc s.out hq));with_reducible repeat' (first | exact N | refine Qh ?_ ?_ | refine Qb ?_)
    all_goals (have:=N.size;first | omega | (dsimp only;omega) | (simp;done) | (simp;omega))
   ·have ab:Hid (∀ V:World,Rt 62 #[.agg #[I X,I Y,I K]] V (.bool true)):=fun V=>by
     refine (Up X Y K V).mono ?_;rintro e w' ⟨rfl,o,rfl⟩;rw [hT];exact ⟨rfl,Qb (Qe _)⟩
    have be:Hid (∀ q,q<i+1→MOk1 L (tz M) q):=fun q hq=>by
     rcases Nat.lt_succ_iff_lt_or_eq.1 hq with e | rfl
     ·exact HQ.out q e
     ·exact HG.out.2 hT
    clear hT;obtain ⟨kc,kn⟩:=kcn Z;refine wk ?_;repeat (go_big_quiet_step (first | (go_at_call 61;exact Qf (aj.out _)) | (go_at_call 54;exact Qf (ai.out _)) | (go_at_call 62;exact Qf (ab.out _))))
    refine kq1 (fun V8 hq=>?_);clear kc kn;go_upto_region 10 with fail
    replace x0:=Qa hq x0;replace x1:=Qa hq x1;replace x2:=Qa hq x2;replace x3:=Qa hq x3;replace x4:=Qa hq x4;replace x5:=Qa hq x5;replace z9:B9<V8.heap.size:=bk x0;have p:Hid (Tof w1 w2 V8 d M h i r hc u):=⟨Qj f.out.ms (Qc s.out hq),Qj f.out.hs (Qc s.out hq),Qc f.out.b (Qc s.out hq),Nt f.out.sz (Qc s.out hq).size,f.out.lo,f.out.le⟩;have bv:w2.heap.size≤V8.heap.size:=p.out.sz;obtain ⟨O,a6⟩:∃ z,z=h i:=⟨_,rfl⟩;have bt:0≤O∧O≤300:=by rw [a6];exact U.out.2.2.1 i h1
    have bu:IntKind.i64.wrap (-O)=-O:=υ;clear t0 t1 t2 zt;go_wp2_with (at_builtin;refine wpList_append_lies _ rfl (.tmp 41) (.tmp 43) 26 rfl w2.heap.size 91 i6 (.agg #[I 0,I 0,I 0,I 0,I 0,I 0]) 6 48 Tryz.underlying26 HI.out.1 HI.out.2.1 HI.out.2.2.1 HI.out.2.2.2 rfl ψ u i (rowM (tz M) i) rfl (Qj p.out.ms β1) ⟨V8.heap.size,0,none⟩ 1 1 [I (-A),I (-B),I C,I D,I (-E),I F] rfl rfl (cell_six_new _ _ _ _ _ _ _) (six_one _ _ _ _ _ _) ψ Ξ γ ω (V8.heap.size+1) ξ ?grow)
    case grow =>
     intro gq cq W9 aa R bg bi;have a2:V8.grownBy W9 u.ownBlock:=Ji (bl_grown' β1) R
     have T:some r≠u.ownBlock:=fun e=>by
      have:=Qw p.out.ms r e.symm;have:=p.out.lo;omega
     have bj:r<V8.heap.size:=(p.out.hs.lt r rfl).2
     have c9:At W9 r i (I O):=by
      refine a2.cell ?_ T;rw [p.out.hs.cellAt i γ,hv_at _ h1,a6];simp [Go.Proofs.YtnpboeodhpenmaaGreatDoor.hT]
     have k9:Fn W9 r i:=(Fo (a:=⟨r,i,none⟩) (a2.block r bj T)).trans (p.out.hs.frozenAt i)
     have HN:Hid (Tof w1 w2 (W9.setCell ⟨r,i,none⟩ (I (-O))) d M h (i+1) r hc (.slice (Az gq) (i+1) cq)):=by
      rw [a6];refine p.out.put h1 a2 ?_
      have e:rowM (tz M) (i+1)=rowM (tz M) i ++ [I (-A),I (-B),I C,I D,I (-E),I F]:=by
       conv=>lhs;unfold rowM
       rw [ak.out]
      rw [e];exact aa
     clear aa R bg bi a2 T a6;go_wp2;go_roundg (d - (i+1))
     case measure=>omega
     case rel=>exact ⟨i+1,_,γ,rfl,rfl,σ,be.out,HN.out⟩
  ·have i1:¬ (i:Int)<(d:Int):=γ;obtain rfl:i=d:=γ;obtain ⟨g6,c6,rfl,ao,bh⟩:=own_mrow f.out.ms h0;have ac:=Hd (Qc j.out.2.1 f.out.b);have bb:Hid (Cl 63 #[.agg #[I (W:Int),I (H:Int),.slice (Ad b off) m G,.slice cb n l],.slice (Az g6) i c6,.slice (Az r) i hc] wr fun e w'=>HeapF wr w' (W:Int) (H:Int) m n i zs ks (tz M) (trS L (hpN (mvP L (tz M)) (hvs (hneg h i)) i)) e):=heaped_any W H b off G m n l i g6 c6 r 0 hc cb zs ks (hneg h i) L (tz M) wr (fun V hV=>CT.out V (Qc ac.out hV)) (fun V hV=>CO.out V (Qc ac.out hV)) U.out.2.2.2.1 h0 ay ao (fun q hq=>(HQ.out q hq).1) f.out.end_ (by simp [hneg]) U.out.2.2.2.2.1 U.out.2.2.2.2.2;obtain ⟨d0,d1,d2,d3,d4,d5⟩:=j.out.2.2.2;replace d0:=Qa f.out.b d0;replace d1:=Qa f.out.b d1;replace d2:=Qa f.out.b d2;replace d3:=Qa f.out.b d3;replace d4:=Qa f.out.b d4;replace d5:=Qa f.out.b d5;have zd:=Bt d0;have HX:=Hd (j.out.2.2.1.kept f.out.b);clear ao bh;go_wp2_with (go_at_call 63;refine bb.out.mono ?_;rintro e w7 ⟨a7,am,b7,an,g7,c7,t7,u7,rfl,av,aw,af,ar,Q⟩;have H7:=H6 av aw af.1 af.2 ar Q;obtain ⟨⟨r0,r1,r2,r3,r4,r5⟩,J⟩:=HX.out.kept Q;have zr:=Bt r0;have bn:=J 0;have bo:=J 1;have bp:=J 2;have bq:=J 3;have br:=J 4;have bs:=J 5;clear J av aw af ar Q)
   have zw:w.heap.size+1<wr.heap.size:=World.block_lt_of_cell? wr ⟨w.heap.size+1,0,none⟩ HX.out.1.1;refine bodyPost_ret (v:=.tuple #[.agg #[I (W:Int),I (H:Int),.slice a7 m am,.slice b7 n an,.slice (Az g7) i c7,.slice t7 (trS L (hpN (mvP L (tz M)) (hvs (hneg h i)) i)).length u7],.bool true]) (by simp [results,Tryz.results15,go_sem, *]) rfl (Or.inr ⟨a7,am,b7,an,g7,c7,t7,u7,rfl, ?_, ?_, ?_, ?_, ?_, ?_⟩)
   ·rw [← U.out.2.2.2.1];exact HQ.out
   ·refine RowF.low (base:=wr.heap.size) ?_ γ;with_reducible repeat (refine RowF.set ?_ (by dsimp only;exact zw))
    exact H7.out.1
   ·refine RowF.low (base:=wr.heap.size) ?_ γ;with_reducible repeat (refine RowF.set ?_ (by dsimp only;exact zw))
    exact H7.out.2.1
   ·have T:g7≠w.heap.size+1:=by
     have:=H7.out.2.2.2.1;omega
    with_reducible repeat (refine MRow.setE ?_ T)
    exact H7.out.2.2.1
   ·refine SRowE.low (base:=wr.heap.size) ?_ γ;with_reducible repeat (refine SRowE.set ?_ (by dsimp only;exact zw))
    exact H7.out.2.2.2.2.1
   ·with_reducible repeat (refine Qh ?_ ?_)
    all_goals first | exact Qc ac.out H7.out.2.2.2.2.2 | (dsimp only;omega)
theorem MRow.set (h:MRow w g n M) {b o:Nat} (a:g≠b):MRow (w.setCell ⟨b,o,none⟩ u) g n M:=h.grown (Ql w b o u) (by simpa using a)
def StateTo (w w':World) (W H:Int) (n nn:Nat) (zs ks:List Int) (M:Nat→M6) (L:List T3) (pl:Nat→Int×Int×Int) (h:Nat→Int) (e:Ending):Prop := ∃ a ca b cb g c t u Hp,e=.returned (.agg #[I W,I H,.slice a zs.length ca,.slice b n cb,.slice (Az g) nn c,.slice t (List.length Hp) u])∧RowF w' w.heap.size a zs∧RowF w' w.heap.size b ks∧MRow w' g nn M∧w.heap.size≤g∧Heap nn pl h Hp∧SRowF w' w.heap.size t (Hp.map fun s=>(s.1,tgn L s.2))∧Bl w w'
theorem state_any (w:World) (W H:Int) (a b:Option Addr) (ca cb n:Nat) (zs ks:List Int) (ad pa:Option Addr) (cc ra rk P cm pc:Nat) (M:Nat→M6) (L pl:List T3) (rv:Value) (h:Nat→Int) (hz:Row w a zs) (hk:Row w b ks) (hn:ks.length=n*5) (h1:zs.length≤17592186044416) (h2:n≤3518437208883) (ha:a=none∨∃ p off,a=Ad p off) (hb:b=none∨∃ p off,b=Ad p off)
  (hl:pl.length=L.length) (hT:TRow w ad L) (hP:TRow w pa pl) (hM:MRow w P L.length M) (h0:0<L.length) (bj:L.length≤300) (hS:∀ W,Bl w W→SortsN W L.length rv h) (D:∀ i j,i<pl.length→j<pl.length→pl.getD i (0,0,0)=pl.getD j (0,0,0)→i≠j→h i≠h j) :
  Cl 47 #[pileV ad L.length cc ra rk P cm pa pc,.agg #[I W,I H,.slice a zs.length ca,.slice b n cb],rv] w fun e w'=>StateTo w w' W H n L.length zs ks M L (plcA pl) h e:=by
 have C1:=Hd (fun (V:World) C=>copy_any W H a b ca cb n zs ks V (hz.kept C) (hk.kept C) hn h1 h2 ha hb);have C2:=Hd (fun (V:World) C=>cloneM_any V P L.length cm M (hM.kept C) h0 bj);have C3:Hid (∀ V:World,Bl w V→Cl 118 #[.agg #[.slice ad L.length cc,.map (some ra),.map (some rk),.slice (Az P) L.length cm,.slice pa L.length pc],rv] V fun e w'=>∃ a c H,e=.returned (.slice a H.length c)∧Heap L.length (plcA pl) h H∧SRowF w' V.heap.size a (H.map fun s=>(s.1,tgn L s.2))∧Bl V w'):=fun V C=>stacks_any V ad pa cc ra rk P cm pc L pl rv h hl (hT.kept C) (hP.kept C) h0 bj (fun W' cw=>hS W' (Qc C cw)) D;unfold pileV;obtain ⟨z,bk⟩:∃ z,z=L.length:=⟨_,rfl⟩;obtain ⟨m,hm⟩:∃ m,m=zs.length:=⟨_,rfl⟩;rw [← hm] at C1 ⊢;rw [← bk] at C2 C3 ⊢;have HM:=Hd hm;clear hz hk ha hb hT hP hM hS D hm bk hl;go_enter Tryz.func47,Tryz.ntmps47;go_upto_region 1 with fail
 refine Qi (fun r hW0=>?_);have t:Bl w r.drew:=Qg (by rw [hW0];exact Qb β2);have A:At r w.heap.size 0 (.slice ad z cc):=ν;have Q:At r w.heap.size 1 (.map (some ra)):=ν;have R:At r w.heap.size 2 (.map (some rk)):=ν;have T:At r w.heap.size 3 (.slice (Az P) z cm):=ν;have U:At r w.heap.size 4 (.slice pa z pc):=ν;have B:At r (w.heap.size+1) 0 (I W):=ν;have X:At r (w.heap.size+1) 1 (I H):=ν;have Y:At r (w.heap.size+1) 2 (.slice a m ca):=ν;have Z:At r (w.heap.size+1) 3 (.slice b n cb):=ν;have k:w.heap.size+3≤r.drew.heap.size:=by rw [hW0];simp [World.drew]
 have a6:At r (w.heap.size+2) 0 (I 0):=ν;have F:r.frozen? ⟨w.heap.size+2,0,none⟩=false:=ν;have a7:At r (w.heap.size+2) 1 (I 0):=ν;have G:r.frozen? ⟨w.heap.size+2,1,none⟩=false:=ν;have a8:At r (w.heap.size+2) 2 SN:=ν;have J:r.frozen? ⟨w.heap.size+2,2,none⟩=false:=ν;have aa:At r (w.heap.size+2) 3 SN:=ν;have K:r.frozen? ⟨w.heap.size+2,3,none⟩=false:=ν;have ab:At r (w.heap.size+2) 4 SN:=ν;have N:r.frozen? ⟨w.heap.size+2,4,none⟩=false:=ν;have ac:At r (w.heap.size+2) 5 SN:=ν;have O:r.frozen? ⟨w.heap.size+2,5,none⟩=false:=ν;have zA:=Bt A;have zB:=Bt B;clear hW0
 go_region_held3 (fun w'=>At w' w.heap.size 0 (.slice ad z cc)∧At w' w.heap.size 1 (.map (some ra))∧At w' w.heap.size 2 (.map (some rk))∧At w' w.heap.size 3 (.slice (Az P) z cm)∧At w' w.heap.size 4 (.slice pa z pc)∧At w' (w.heap.size+1) 0 (I W)∧At w' (w.heap.size+1) 1 (I H)∧At w' (w.heap.size+1) 2 (.slice a m ca)∧At w' (w.heap.size+1) 3 (.slice b n cb))
  ((refine ⟨?_, ?_, ?_, ?_, ?_, ?_, ?_, ?_, ?_⟩ <;> (first | (with_reducible (repeat (first | assumption | refine Qq ?_));done) | ((repeat (with_reducible refine Qo ?_ θ));with_reducible assumption))))
  (first
   | (go_at_call 116;refine (C1.out _ (by first | exact x | exact y | exact t)).mono ?_;rintro e w1 ⟨a1,k1,a2,k2,rfl,bc,be,g⟩;have u:Bl w w1:=(by first | exact Qc x g | exact Qc y g | exact Qc t g);have q:w.heap.size+3≤w1.heap.size:=Nt (by first | exact l | exact o | exact k) g.size;have az:Hid (RowF w1 (w.heap.size+3) a1 zs∧RowF w1 (w.heap.size+3) a2 ks):=⟨bc.low (by first | exact l | exact o | exact k),be.low (by first | exact l | exact o | exact k)⟩;clear bc be;have bm:=Qa g (by first | exact A | exact bv | exact cj);have bn:=Qa g (by first | exact Q | exact bw | exact cl);have bo:=Qa g (by first | exact R | exact bz | exact cn);have bp:=Qa g (by first | exact T | exact cd | exact co);have bq:=Qa g (by first | exact U | exact ce | exact cp);have br:=Qa g (by first | exact B | exact cf | exact cr);have bs:=Qa g (by first | exact X | exact cg | exact ct);have bt:=Qa g (by first | exact Y | exact ch | exact cu);have bu:=Qa g (by first | exact Z | exact ci | exact cv);have ae:=Qa g (by first | exact a6 | exact ak | exact ar);have f10:=(g.frozen (p:=⟨w.heap.size+2,0,none⟩) (by first | exact k | exact l | exact o)).trans (by first | exact F | exact f20 | exact b6);have af:=Qa g (by first | exact a7 | exact am | exact au);have f11:=(g.frozen (p:=⟨w.heap.size+2,1,none⟩) (by first | exact k | exact l | exact o)).trans (by first | exact G | exact f21 | exact b7);have ag:=Qa g (by first | exact a8 | exact an | exact av);have f12:=(g.frozen (p:=⟨w.heap.size+2,2,none⟩) (by first | exact k | exact l | exact o)).trans (by first | exact J | exact f22 | exact b8);have ah:=Qa g (by first | exact aa | exact ao | exact aw);have f13:=(g.frozen (p:=⟨w.heap.size+2,3,none⟩) (by first | exact k | exact l | exact o)).trans (by first | exact K | exact f23 | exact b9);have ai:=Qa g (by first | exact ab | exact ap | exact ax);have f14:=(g.frozen (p:=⟨w.heap.size+2,4,none⟩) (by first | exact k | exact l | exact o)).trans (by first | exact N | exact f24 | exact ba);have aj:=Qa g (by first | exact ac | exact aq | exact ay);have f15:=(g.frozen (p:=⟨w.heap.size+2,5,none⟩) (by first | exact k | exact l | exact o)).trans (by first | exact O | exact f25 | exact bb))
   | (go_at_call 117;refine (C2.out _ (by first | exact u | exact y | exact t)).mono ?_;rintro e w2 ⟨g1,c1,rfl,bf,bg,d⟩;have x:Bl w w2:=(by first | exact Qc u d | exact Qc y d | exact Qc t d);have l:w.heap.size+3≤w2.heap.size:=Nt (by first | exact q | exact o | exact k) d.size;have E:Hid (MRow w2 g1 z M∧w.heap.size+3≤g1):=⟨bf,Nt (by first | exact q | exact o | exact k) bg⟩;clear bf bg;have bv:=Qa d (by first | exact A | exact bm | exact cj);have bw:=Qa d (by first | exact Q | exact bn | exact cl);have bz:=Qa d (by first | exact R | exact bo | exact cn);have cd:=Qa d (by first | exact T | exact bp | exact co);have ce:=Qa d (by first | exact U | exact bq | exact cp);have cf:=Qa d (by first | exact B | exact br | exact cr);have cg:=Qa d (by first | exact X | exact bs | exact ct);have ch:=Qa d (by first | exact Y | exact bt | exact cu);have ci:=Qa d (by first | exact Z | exact bu | exact cv);have ak:=Qa d (by first | exact a6 | exact ae | exact ar);have f20:=(d.frozen (p:=⟨w.heap.size+2,0,none⟩) (by first | exact k | exact q | exact o)).trans (by first | exact F | exact f10 | exact b6);have am:=Qa d (by first | exact a7 | exact af | exact au);have f21:=(d.frozen (p:=⟨w.heap.size+2,1,none⟩) (by first | exact k | exact q | exact o)).trans (by first | exact G | exact f11 | exact b7);have an:=Qa d (by first | exact a8 | exact ag | exact av);have f22:=(d.frozen (p:=⟨w.heap.size+2,2,none⟩) (by first | exact k | exact q | exact o)).trans (by first | exact J | exact f12 | exact b8);have ao:=Qa d (by first | exact aa | exact ah | exact aw);have f23:=(d.frozen (p:=⟨w.heap.size+2,3,none⟩) (by first | exact k | exact q | exact o)).trans (by first | exact K | exact f13 | exact b9);have ap:=Qa d (by first | exact ab | exact ai | exact ax);have f24:=(d.frozen (p:=⟨w.heap.size+2,4,none⟩) (by first | exact k | exact q | exact o)).trans (by first | exact N | exact f14 | exact ba);have aq:=Qa d (by first | exact ac | exact aj | exact ay);have f25:=(d.frozen (p:=⟨w.heap.size+2,5,none⟩) (by first | exact k | exact q | exact o)).trans (by first | exact O | exact f15 | exact bb))
   | (go_at_call 118;refine (C3.out _ (by first | exact u | exact x | exact t)).mono ?_;rintro e w3 ⟨t1,u1,Hp,rfl,bh,bi,f⟩;have y:Bl w w3:=(by first | exact Qc u f | exact Qc x f | exact Qc t f);have o:w.heap.size+3≤w3.heap.size:=Nt (by first | exact q | exact l | exact k) f.size;have b5:Hid (Heap z (plcA pl) h Hp∧SRowF w3 (w.heap.size+3) t1 (Hp.map fun s=>(s.1,tgn L s.2))):=⟨bh,bi.low (by first | exact q | exact l | exact k)⟩;clear bh bi;have cj:=Qa f (by first | exact A | exact bm | exact bv);have cl:=Qa f (by first | exact Q | exact bn | exact bw);have cn:=Qa f (by first | exact R | exact bo | exact bz);have co:=Qa f (by first | exact T | exact bp | exact cd);have cp:=Qa f (by first | exact U | exact bq | exact ce);have cr:=Qa f (by first | exact B | exact br | exact cf);have ct:=Qa f (by first | exact X | exact bs | exact cg);have cu:=Qa f (by first | exact Y | exact bt | exact ch);have cv:=Qa f (by first | exact Z | exact bu | exact ci);have ar:=Qa f (by first | exact a6 | exact ae | exact ak);have b6:=(f.frozen (p:=⟨w.heap.size+2,0,none⟩) (by first | exact k | exact q | exact l)).trans (by first | exact F | exact f10 | exact f20);have au:=Qa f (by first | exact a7 | exact af | exact am);have b7:=(f.frozen (p:=⟨w.heap.size+2,1,none⟩) (by first | exact k | exact q | exact l)).trans (by first | exact G | exact f11 | exact f21);have av:=Qa f (by first | exact a8 | exact ag | exact an);have b8:=(f.frozen (p:=⟨w.heap.size+2,2,none⟩) (by first | exact k | exact q | exact l)).trans (by first | exact J | exact f12 | exact f22);have aw:=Qa f (by first | exact aa | exact ah | exact ao);have b9:=(f.frozen (p:=⟨w.heap.size+2,3,none⟩) (by first | exact k | exact q | exact l)).trans (by first | exact K | exact f13 | exact f23);have ax:=Qa f (by first | exact ab | exact ai | exact ap);have ba:=(f.frozen (p:=⟨w.heap.size+2,4,none⟩) (by first | exact k | exact q | exact l)).trans (by first | exact N | exact f14 | exact f24);have ay:=Qa f (by first | exact ac | exact aj | exact aq);have bb:=(f.frozen (p:=⟨w.heap.size+2,5,none⟩) (by first | exact k | exact q | exact l)).trans (by first | exact O | exact f15 | exact f25)))
 all_goals
  go_wp2;refine bodyPost_ret (v:=.agg #[I W,I H,.slice a1 zs.length k1,.slice a2 n k2,.slice (Az g1) z c1,.slice t1 Hp.length u1]) (by first | (simp [results,Tryz.results47,go_sem];done) | (simp [results,Tryz.results47,go_sem];done) | (simp [results,Tryz.results47,go_sem,ar,au,av,aw,ax,ay];done)) rfl ⟨a1,k1,a2,k2,g1,c1,t1,u1,Hp,rfl, ?_, ?_, ?_,(by have:=E.out.2;omega),b5.out.1, ?_, ?_⟩
  ·refine RowF.low (base:=w.heap.size+3) ?_ γ;with_reducible repeat (refine RowF.set ?_ θ)
   exact az.out.1.kept (by with_reducible first | exact Qe _ | exact d | exact f | exact Qc d f | exact Qc f d)
  ·refine RowF.low (base:=w.heap.size+3) ?_ γ;with_reducible repeat (refine RowF.set ?_ θ)
   exact az.out.2.kept (by with_reducible first | exact Qe _ | exact d | exact f | exact Qc d f | exact Qc f d)
  ·have cx:=E.out.2;with_reducible repeat (refine MRow.set ?_ γ)
   exact E.out.1.kept (by with_reducible first | exact Qe _ | exact g | exact f | exact Qc g f | exact Qc f g)
  ·refine SRowF.low (base:=w.heap.size+3) ?_ γ;with_reducible repeat (refine SRowF.set ?_ θ)
   exact b5.out.2.kept (by with_reducible first | exact Qe _ | exact g | exact d | exact Qc g d | exact Qc d g)
  ·with_reducible repeat (refine Qh ?_ ?_)
   all_goals first | (with_reducible exact u) | (with_reducible exact x) | (with_reducible exact y) | omega | (dsimp only;omega)
end Go.Proofs.YtnpboeodhpenmaaGreatDoor
