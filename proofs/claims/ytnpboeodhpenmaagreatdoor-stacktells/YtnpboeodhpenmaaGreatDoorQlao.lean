/- A part of it. -/
import Derived.Test.YtnpboeodhpenmaaGreatDoorQlaf
import Derived.Shelf.SlSortCmp.Kit1
set_option maxRecDepth 100000
set_option maxHeartbeats 40000000
namespace Go.Proofs.YtnpboeodhpenmaaGreatDoor
open Go.RowKit Go.ChangeMaps
variable {L:List T3} {k m n:Nat}
theorem row_getH {w:World} {g o:Nat} {hs:List Int} (h:Row w (some ⟨g,o,none⟩) hs) {i:Nat} (hi:i<hs.length):w.cell? ⟨g,o+i,none⟩=some (I (hs.getD i 0)):=by
 obtain ⟨b,off,e,a⟩:=h i hi
 cases e;(try simp only [I]);rw [a,List.getD_eq_getElem?_getD,List.getElem?_eq_getElem hi]
 rfl
theorem Ys {α:Type} {l:List α} (h:l.Nodup) {i j:Nat} (hi:i<l.length) (a:j<l.length) (e:l[i]=l[j]):i=j:=by
 have hp:=List.pairwise_iff_getElem.1 h;rcases Nat.lt_trichotomy i j with q | q | q
 ·exact absurd e (hp i j hi a q)
 ·exact q
 ·exact absurd e.symm (hp j i a hi q)
theorem four_oneH (a b c:Int) (d:Option Addr) (n m:Nat):∀ u ∈ [I a,I b,I c,.slice d n m],u.oneCell'=true:=by
 intro u e;simp at e;rcases e with rfl | rfl | rfl | rfl <;> rfl
theorem inf98H:(Tryz.prog.info? 107).map (fun i=>(i.zero,i.size,i.bytes))=some (some (.agg #[I 0,I 0,I 0,SN]),4,48):=η
theorem cell_fourH (w:World) (a b c d:Value) (T:TypeId):∀ j u,([a,b,c,d])[j]?=some u→(w.alloc (.cells #[a,b,c,d] T)).cell? ((⟨w.heap.size,0,none⟩:Addr).add j)=some u:=by
 intro j u e;match j,e with
 | 0,e=>simp at e;subst e;simp [Addr.add,go_sem]
 | 1,e=>simp at e;subst e;simp [Addr.add,go_sem]
 | 2,e=>simp at e;subst e;simp [Addr.add,go_sem]
 | 3,e=>simp at e;subst e;simp [Addr.add,go_sem]
theorem Zx {P:Program} (w:World) (t ty e:TypeId) (i:TypeInfo) (f:P.underlying t=some (.slice e)) (hi:P.info? e=some i) (g n a:Nat) (d:n≤a) (b:Option Addr) (c:Nat) :
  (Builtin.append_ #[t,t] ty #[.slice (Az g) n a,.slice b 0 c]).run P w=.ok (.slice (Az g) n a) w:=by
 cases b <;> simp [Builtin.append_,run_underlying f,run_sizeOf w hi,Builtin.lenOf,Builtin.firstCells,loadCells,loadCellsFrom,d,storeCells]
theorem Xt {P:Program} {f:Array Oper} {o:Oper} {a:Act} {w:World} {K:Act→World→Prop} {Q:Exit→Act→World→Prop} {E:Prop} (j:o.guard=none) (s x:Operand) (t:TypeId)
  (m:o.op=.call { callee:=.builtin .append,args:=#[s,x],argTypes:=#[t,t] })
  (e:TypeId) (i:TypeInfo) (p:P.underlying t=some (.slice e)) (hi:P.info? e=some i) (g n b:Nat) (l:n≤b) (k:Option Addr) (c:Nat)
  (hs:a.eval s=.slice (Az g) n b) (r:a.eval x=.slice k 0 c)
  (h:K (a.put o.dst (.slice (Az g) n b)) w) :
  if Region.wanted o (yielded f a.tmps)=true then Oper.wp P o a w K Q else E:=by
 have q:Region.wanted o (yielded f a.tmps)=true:=by simp [Region.wanted,j]
 rw [if_pos q];have d:=Zx (P:=P) w t o.type e i p hi g n b l k c;unfold Oper.wp;simp [execOp,m,resolve,invoke,builtin,hs,r,d,Result.andThen];exact h
def allS (S:List (T3×List T3)):List T3:=S.flatMap fun s=>s.2
structure StOk (L:List T3) (P:Nat→Int×Int×Int) (S:List (T3×List T3)):Prop where
 ne:∀ s∈S,s.2≠[]
 up:∀ n (h:n+1<S.length),ltT S[n].1 S[n+1].1
 pl:∀ s∈S,∀ t∈s.2,∃ i,∃ h:i<L.length,L[i]=t∧P i=s.1
 nd:∀ s∈S,s.2.Nodup
 al:(allS S).length=L.length
theorem up_pair {S:List (T3×List T3)} (h:∀ n (h:n+1<S.length),ltT S[n].1 S[n+1].1):S.Pairwise fun a b=>ltT a.1 b.1:=by
 rw [List.pairwise_iff_getElem];intro i j hi e c;obtain ⟨d,rfl⟩:∃ d,j=i+1+d:=⟨j - (i+1),γ⟩;clear c;induction d with
 | zero=>exact h i e
 | succ d ih=>exact Xq _ _ _ (ih γ) (h (i+1+d) e)
theorem Zv:∀ (F L:List T3),F.Nodup→(∀ x∈F,x∈L)→F.length≤L.length
 | [],_,_,_=>by simp
 | a :: F,L,hn,hs=>by
  rw [List.nodup_cons] at hn;have h1:=Zv F (L.erase a) hn.2 fun x c=>(List.mem_erase_of_ne (fun e:x=a=>hn.1 (e ▸ c))).2 (hs x (List.mem_cons_of_mem _ c));have b:=hs a ξ;have h2:=List.length_erase_of_mem b;have h3:=List.length_pos_of_mem b;simp only [List.length_cons];omega
theorem StOk.nodup {P:Nat→Int×Int×Int} {S:List (T3×List T3)} (g:L.Nodup) (h:StOk L P S):(allS S).Nodup:=by
 unfold allS List.Nodup;rw [List.pairwise_flatMap];refine ⟨h.nd, ?_⟩;have hp:=up_pair h.up;rw [List.pairwise_iff_getElem] at hp ⊢;intro i j hi d c x m y n e;subst e;obtain ⟨a,k,e1,e2⟩:=h.pl _ (Lm hi) x m;obtain ⟨b,l,e3,f⟩:=h.pl _ (Lm d) x n;have:=Ys g k l (e1.trans e3.symm);subst this;have h3:=hp i j hi d c;rw [← e2,← f] at h3;exact Jr _ h3
theorem StOk.mem {P:Nat→Int×Int×Int} {S:List (T3×List T3)} (h:StOk L P S):∀ t∈allS S,t∈L:=fun t a=>by
 unfold allS at a;rw [List.mem_flatMap] at a;obtain ⟨s,hs,a⟩:=a;obtain ⟨i,hi,e,_⟩:=h.pl s hs t a;exact e ▸ Lm hi
theorem StOk.cov {P:Nat→Int×Int×Int} {S:List (T3×List T3)} (c:L.Nodup) (h:StOk L P S):∀ t∈L,t∈allS S:=fun t d=>by
 refine Classical.byContradiction fun a=>?_
 have:=Zv (t :: allS S) L (List.nodup_cons.2 ⟨a,h.nodup c⟩) fun x b=>by
  rcases List.mem_cons.1 b with e | b
  ·exact e ▸ d
  ·exact h.mem x b
 simp only [List.length_cons] at this;have:=h.al;omega
theorem Uh {S:List (T3×List T3)} (h:n<S.length):allS (S.take (n+1))=allS (S.take n) ++ S[n].2:=by
 unfold allS;rw [List.take_succ_eq_append_getElem h,List.flatMap_append];simp
theorem allS_cut {S:List (T3×List T3)} (h:n<S.length):∃ r,allS S=allS (S.take n) ++ S[n].2 ++ r:=by
 refine ⟨allS (S.drop (n+1)), ?_⟩;rw [← Uh h];unfold allS;rw [← List.flatMap_append,List.take_append_drop]
theorem twice_not {S:List (T3×List T3)} (h:n<S.length) (c:k<S[n].2.length) (b:S[n].2[k]∈allS (S.take n) ++ S[n].2.take k):¬ (allS S).Nodup:=fun a=>by
 obtain ⟨r,e⟩:=allS_cut h;rw [e] at a
 have e2:S[n].2=S[n].2.take k ++ [S[n].2[k]] ++ S[n].2.drop (k+1):=by
  rw [List.append_assoc,List.singleton_append,List.getElem_cons_drop,List.take_append_drop]
 rw [e2,← List.append_assoc,← List.append_assoc] at a;have h1:=(List.nodup_append.1 (List.nodup_append.1 (List.nodup_append.1 a).1).1);exact h1.2.2 _ b _ ξ rfl
theorem tk_up (zs:List Int) (W x y n:Nat):(tk zs W x y n).Pairwise ltT:=by
 unfold tk;rw [List.pairwise_map];refine List.Pairwise.filter _ (List.pairwise_lt_range.imp ?_);intro a b h;unfold ltT;dsimp only;omega
theorem ty_up (zs:List Int) (W n:Nat):(ty zs W n).Pairwise ltT:=by
 unfold ty tx;rw [List.pairwise_flatMap];refine ⟨fun y _=>?_,List.pairwise_lt_range.imp ?_⟩
 ·rw [List.pairwise_flatMap];refine ⟨fun x _=>tk_up _ _ _ _ _,List.pairwise_lt_range.imp ?_⟩;intro a b h t c u d;unfold tk at c d;rw [List.mem_map] at c d;obtain ⟨i,_,rfl⟩:=c;obtain ⟨j,_,rfl⟩:=d;unfold ltT;dsimp only;omega
 ·intro a b h t c u d;rw [List.mem_flatMap] at c d;obtain ⟨p,_,c⟩:=c;obtain ⟨q,_,d⟩:=d;unfold tk at c d;rw [List.mem_map] at c d;obtain ⟨i,_,rfl⟩:=c;obtain ⟨j,_,rfl⟩:=d;unfold ltT;dsimp only;omega
theorem cmpT_lt0 (a b c p q r:Int):cmpT a b c p q r<0↔ltT (a,b,c) (p,q,r):=by
 unfold cmpT or2 cmp3 ltT;dsimp only;constructor
 ·intro h;repeat' split at h
  all_goals first | omega | (exfalso;omega)
 ·intro h;repeat' split
  all_goals first | omega | (exfalso;omega)
theorem cmpT_eq0 (a b c p q r:Int):cmpT a b c p q r=0↔(a,b,c)=(p,q,r):=by
 unfold cmpT or2 cmp3;simp only [Prod.mk.injEq];constructor
 ·intro h;repeat' split at h
  all_goals first | omega | (exfalso;omega)
 ·rintro ⟨rfl,rfl,rfl⟩;simp
def NumTo (L:List T3) (t:T3) (w w':World) (e:Ending):Prop := ∃ (i:Nat) (b:Bool),e=.returned (.tuple #[I (i:Int),.bool b])∧i≤L.length∧(b=true↔t∈L)∧(b=true→∃ h:i<L.length,L[i]=t)∧Bl w w'
theorem search_any (w:World) (O:Option Addr) (Q:Nat) (L:List T3) (x y k:Int) (hT:TRow w O L) (F:L.Pairwise ltT) (hL:L.length≤300) :
  Cl 150 #[.slice O L.length Q,.agg #[I x,I y,I k],.func (.func 151) #[] #[]] w fun e w'=>NumTo L (x,y,k) w w' e:=by
 have B:=H2 hT F;clear hT F;go_enter Tryz.func150,Tryz.ntmps150;go_wp2;go_loopg [9,10] L.length (fun R s9 N wx=>∃ i j:Nat,i≤j∧j≤L.length∧R=j - i∧s9=I (i:Int)∧N=I (j:Int)∧(∀ m (h:m<L.length),m<i→ltT L[m] (x,y,k))∧(∀ m (h:m<L.length),j≤m→¬ ltT L[m] (x,y,k))∧Below (w.alloc (.cells #[I x,I y,I k] 51)).heap.size (w.alloc (.cells #[I x,I y,I k] 51)) wx)
 case atStart=>exact ⟨0,L.length,γ,γ,γ,rfl,rfl,fun m _ h=>by omega,fun m h1 h2=>by omega,Qe _⟩
 case round =>
  obtain ⟨i,j,T,U,rfl,rfl,rfl,D,C,u⟩:=hrel;have A:=H2 D C;have s:=H2 (Qc β1 u) u;have b0:At wr w.heap.size 0 (I x):=Qa u δ;have b1:At wr w.heap.size 1 (I y):=Qa u δ;have b2:At wr w.heap.size 2 (I k):=Qa u δ;have zb:=Bt b0;clear D C u;by_cases h1:i<j
  ·have Y:(i:Int)<(j:Int):=γ;obtain ⟨m,E⟩:∃ m,m=(i+j) / 2:=⟨_,rfl⟩;have f:m<L.length:=γ;have m1:(m:Int)<(L.length:Int):=γ;have m0:(0:Int)≤(m:Int):=γ;obtain ⟨g,rfl,t0,l,o⟩:=(B.out.1.kept s.out.1) m f;have zg:=Bt t0
   have z:Hid (((i:Int)+(j:Int)) / 2=(m:Int)):=by
    have:((i:Int)+(j:Int)) / 2=(m:Int):=γ;exact this
   have V:i≤m:=γ;have X:m<j:=γ;clear E;obtain ⟨p,q,r,a⟩:∃ p q r,L[m]=(p,q,r):=⟨_,_,_,rfl⟩;rw [a] at t0 l o;dsimp only at t0 l o;obtain ⟨c,d⟩:∃ c,c=cmpT p q r x y k:=⟨_,rfl⟩;have J:Hid (∀ W:World,Rt 151 #[.agg #[I p,I q,I r],.agg #[I x,I y,I k]] W (I c)):=fun W=>d ▸ Yo p q r x y k W
   have t:Hid (c<0↔ltT L[m] (x,y,k)):=by
    have:c<0↔ltT L[m] (x,y,k):=by rw [d,a];exact cmpT_lt0 _ _ _ _ _ _
    exact this
   clear d a;go_upto_region 5 with fail
   rw [z.out];obtain ⟨G,H⟩:=kcn wr;refine wk ?_;repeat (go_big_quiet_step ((go_at_call 151;exact Qf (J.out _))))
   refine kq1 (fun P hq=>?_);clear G H t0 l o b0 b1 b2;by_cases hc0:c<0
   ·go_wp2;go_roundg (j - (m+1))
    case measure=>omega
    case rel =>
     refine ⟨m+1,j,γ,γ,rfl,σ,rfl,fun n b M=>?_,A.out.2,Qc s.out.2 hq⟩;have h2:=t.out.1 hc0;by_cases e:n=m
     ·subst e;exact h2
     ·have:=(List.pairwise_iff_getElem.1 B.out.2) n m b f γ;exact Xq _ _ _ this h2
   ·go_wp2;go_roundg (m - i)
    case measure=>omega
    case rel =>
     refine ⟨i,m,γ,γ,rfl,rfl,rfl,A.out.1,fun n b M h3=>?_,Qc s.out.2 hq⟩;by_cases e:n=m
     ·subst e;exact absurd (t.out.2 h3) γ
     ·have:=(List.pairwise_iff_getElem.1 B.out.2) m n f b γ;exact absurd (t.out.2 (Xq _ _ _ this h3)) γ
  ·have Y:¬ (i:Int)<(j:Int):=γ;have K:i=j:=γ;subst K;by_cases h2:i<L.length
   ·have Z:(i:Int)<(L.length:Int):=γ;have i0:(0:Int)≤(i:Int):=γ;obtain ⟨g,rfl,t0,l,o⟩:=(B.out.1.kept s.out.1) i h2;have zg:=Bt t0;obtain ⟨p,q,r,a⟩:∃ p q r,L[i]=(p,q,r):=⟨_,_,_,rfl⟩;rw [a] at t0 l o;dsimp only at t0 l o;obtain ⟨c,d⟩:∃ c,c=cmpT p q r x y k:=⟨_,rfl⟩;have J:Hid (∀ W:World,Rt 151 #[.agg #[I p,I q,I r],.agg #[I x,I y,I k]] W (I c)):=fun W=>d ▸ Yo p q r x y k W
    have t:Hid (c=0↔L[i]=(x,y,k)):=by
     have:c=0↔L[i]=(x,y,k):=by rw [d,a];exact cmpT_eq0 _ _ _ _ _ _
     exact this
    clear d a;go_upto_region 8 with fail
    obtain ⟨G,H⟩:=kcn wr;refine wk ?_;repeat (go_big_quiet_step ((go_at_call 151;exact Qf (J.out _))))
    refine kq1 (fun P hq=>?_);clear G H t0 l o b0 b1 b2;go_wp2;refine bodyPost_ret (v:=.tuple #[I (i:Int),.bool (c == 0)]) (by simp [results,Tryz.results150,go_sem]) rfl ⟨i,c == 0,rfl,γ, ?_,fun h=>?_,Qc s.out.1 hq⟩
    ·rw [beq_iff_eq,t.out];constructor
     ·intro e;rw [← e];exact Lm h2
     ·intro E;obtain ⟨n,b,e⟩:=List.getElem_of_mem E;by_cases e1:n=i
      ·subst e1;exact e
      ·by_cases e2:n<i
       ·have:=A.out.1 n b e2;rw [e] at this;exact absurd this (Jr _)
       ·have h3:=(List.pairwise_iff_getElem.1 B.out.2) i n h2 b γ;rw [e] at h3;exact absurd h3 (A.out.2 i h2 (Nr _))
    ·exact ⟨h2,t.out.1 (by simpa using h)⟩
   ·have Z:¬ (i:Int)<(L.length:Int):=γ;go_upto_region 8 with fail
    obtain ⟨G,H⟩:=kcn wr;refine wk ?_;repeat (go_big_quiet_step (fail))
    refine kq1 (fun P hq=>?_);clear G H b0 b1 b2;go_wp2;refine bodyPost_ret (v:=.tuple #[I (i:Int),.bool false]) (by simp [results,Tryz.results150,go_sem]) rfl ⟨i,false,rfl,γ, ?_,(fun h=>by cases h),Qc s.out.1 hq⟩;simp only [Bool.false_eq_true,false_iff];intro E;obtain ⟨n,b,e⟩:=List.getElem_of_mem E;have:=A.out.1 n b γ;rw [e] at this;exact Jr _ this
theorem number_any (w:World) (d:Option Addr) (f:Nat) (j l:Value) (L:List T3) (x y k:Int) (hT:TRow w d L) (a:L.Pairwise ltT) (h:L.length≤300) :
  Cl 71 #[.agg #[.slice d L.length f,j,l],.agg #[I x,I y,I k]] w fun e w'=>NumTo L (x,y,k) w w' e:=by
 have CS:=Hd (fun (W:World) hW=>search_any W d f L x y k (hT.kept hW) a h);clear hT a;go_enter Tryz.func71,Tryz.ntmps71;go_wp2_with (go_at_call 150;refine (CS.out _ β2).mono ?_;rintro e m ⟨i,b,rfl,h1,h2,h3,g⟩;have c:=H3 h2 h3 (Qc β2 g);clear h2 h3 g)
 exact bodyPost_ret (v:=.tuple #[I (i:Int),.bool b]) (by simp [results,Tryz.results71,go_sem]) rfl ⟨i,b,rfl,h1,c.out.1,c.out.2.1,c.out.2.2⟩
structure Pre (L:List T3) (P:Nat→Int×Int×Int) (S:List (T3×List T3)) (m:Nat):Prop where
 ne:∀ n (h:n<S.length),n<m→S[n].2≠[]
 up:∀ n (h:n+1<S.length),n+1<m→ltT S[n].1 S[n+1].1
 pl:∀ n (h:n<S.length),n<m→∀ t∈S[n].2,∃ i,∃ h:i<L.length,L[i]=t∧P i=S[n].1
 nd:(allS (S.take m)).Nodup
structure Pri (L:List T3) (P:Nat→Int×Int×Int) (S:List (T3×List T3)) (m k:Nat) (hm:m<S.length):Prop where
 pre:Pre L P S m
 ne:S[m].2≠[]
 up:∀ q (h:q+1=m),ltT (S[q]'γ).1 S[m].1
 pl:∀ j (h:j<S[m].2.length),j<k→∃ i,∃ h':i<L.length,L[i]=S[m].2[j]∧P i=S[m].1
 nd:(allS (S.take m) ++ S[m].2.take k).Nodup
theorem pre_zero (L:List T3) (P:Nat→Int×Int×Int) (S:List (T3×List T3)):Pre L P S 0 :=
 ⟨fun n _ h=>by omega,fun n _ h=>by omega,fun n _ h=>by omega,by simp [allS]⟩
theorem Pre.start {P:Nat→Int×Int×Int} {S:List (T3×List T3)} (h:Pre L P S m) (c:m<S.length) (a:S[m].2≠[]) (b:∀ q (h:q+1=m),ltT (S[q]'γ).1 S[m].1):Pri L P S m 0 c :=
 ⟨h,a,b,fun j _ h=>by omega,by simpa using h.nd⟩
theorem Pri.step {P:Nat→Int×Int×Int} {S:List (T3×List T3)} {d:m<S.length} (h:Pri L P S m k d) (n:k<S[m].2.length) (o:∃ i,∃ h':i<L.length,L[i]=S[m].2[k]∧P i=S[m].1) (p:S[m].2[k] ∉ allS (S.take m) ++ S[m].2.take k):Pri L P S m (k+1) d:=by
 refine ⟨h.pre,h.ne,h.up,fun j g l=>?_, ?_⟩
 ·by_cases e:j=k
  ·subst e;exact o
  ·exact h.pl j g γ
 ·rw [List.take_succ_eq_append_getElem n,← List.append_assoc];rw [List.nodup_append];refine ⟨h.nd,ξ,fun a f b c e=>?_⟩;simp at c;subst c;exact p (e ▸ f)
theorem Pri.fin {P:Nat→Int×Int×Int} {S:List (T3×List T3)} {c:m<S.length} (h:Pri L P S m k c) (g:k=S[m].2.length):Pre L P S (m+1):=by
 refine ⟨fun n a b=>?_,fun n a b=>?_,fun n a b t d=>?_, ?_⟩
 ·by_cases e:n=m
  ·subst e;exact h.ne
  ·exact h.pre.ne n a γ
 ·by_cases e:n+1=m
  ·subst e;exact h.up n rfl
  ·exact h.pre.up n a γ
 ·by_cases e:n=m
  ·subst e;obtain ⟨j,f,e⟩:=List.getElem_of_mem d;rw [← e];exact h.pl j f γ
  ·exact h.pre.pl n a γ t d
 ·have:=h.nd;rw [g,List.take_length] at this;rw [Uh c];exact this
theorem Pre.ok {P:Nat→Int×Int×Int} {S:List (T3×List T3)} (h:Pre L P S m) (c:m=S.length) (b:(allS S).length=L.length):StOk L P S:=by
 subst c;refine ⟨fun s hs=>?_,fun n a=>h.up n a a,fun s hs=>?_,fun s hs=>?_,b⟩
 ·obtain ⟨n,a,e⟩:=List.getElem_of_mem hs;rw [← e];exact h.ne n a a
 ·obtain ⟨n,a,e⟩:=List.getElem_of_mem hs;rw [← e];exact h.pl n a a
 ·have:=h.nd;rw [List.take_length] at this;unfold allS List.Nodup at this;rw [List.pairwise_flatMap] at this;exact this.1 s hs
theorem Pre.all {P:Nat→Int×Int×Int} {S:List (T3×List T3)} (d:L.Nodup) (h:Pre L P S m) (c:m=S.length) (f:∀ t∈L,t∈allS S):StOk L P S:=by
 refine h.ok c ?_;subst c;have a:=h.nd;rw [List.take_length] at a
 have h1:=Zv (allS S) L a fun t b=>by
  unfold allS at b;rw [List.mem_flatMap] at b;obtain ⟨s,hs,b⟩:=b;obtain ⟨n,a,e⟩:=List.getElem_of_mem hs;obtain ⟨i,hi,e2,_⟩:=h.pl n a a t (e ▸ b);exact e2 ▸ Lm hi
 have h2:=Zv L (allS S) d f;omega
theorem Pri.none {P:Nat→Int×Int×Int} {S:List (T3×List T3)} {u:m<S.length} (o:L.Nodup) (h:Pri L P S m k u) {t:T3} (r:∃ i,∃ h':i<L.length,L[i]=t∧P i=S[m].1) (v:t ∉ S[m].2.take k):t ∉ allS (S.take m) ++ S[m].2.take k:=fun a=>by
 rcases List.mem_append.1 a with a | a
 ·unfold allS at a;rw [List.mem_flatMap] at a;obtain ⟨s,hs,a⟩:=a;obtain ⟨n,f,e⟩:=List.getElem_of_mem hs;rw [List.getElem_take] at e;rw [List.length_take] at f;have g:n<m:=γ;have b:n<S.length:=γ;obtain ⟨i,hi,e1,e2⟩:=h.pre.pl n b g t (e ▸ a);obtain ⟨j,p,e3,l⟩:=r;have:=Ys o hi p (e1.trans e3.symm);subst this
  have c:∀ d q,q+1+d=m→∀ hq:q<S.length,ltT S[q].1 S[m].1:=fun d=>by
   induction d with
   | zero=>exact fun q e hq=>h.up q e
   | succ d ih=>exact fun q e hq=>Xq _ _ _ (h.pre.up q γ γ) (ih (q+1) γ γ)
  have:=c (m - (n+1)) n γ b;rw [← e2,← l] at this;exact Jr _ this
 ·exact v a
theorem not_ne {P:Nat→Int×Int×Int} {S:List (T3×List T3)} (a:m<S.length) (h:S[m].2.length=0):¬ StOk L P S:=fun k=>k.ne _ (Lm a) (List.eq_nil_of_length_eq_zero h)
theorem not_nd {P:Nat→Int×Int×Int} {S:List (T3×List T3)} {j:Nat} (a:L.Nodup) (c:m<S.length) (b:j<S[m].2.length) (h:S[m].2[j]∈allS (S.take m) ++ S[m].2.take j):¬ StOk L P S:=fun k=>twice_not c b h (k.nodup a)
theorem up_nodup (h:L.Pairwise ltT):L.Nodup:=by
 unfold List.Nodup;refine h.imp ?_;intro a b c e;rw [e] at c;exact Jr b c
end Go.Proofs.YtnpboeodhpenmaaGreatDoor
namespace Go.Proofs.YtnpboeodhpenmaaGreatDoor
open Go.RowKit Go.Shelf Go.Lib
open Go.Sort hiding Below
variable {v w:World}
attribute [local go_sem ↓] Go.wp_at_zero Go.wp_at_succ
def GD (w w':World):Prop := ∃ q os,w'=grow (w.drewN q) os
theorem Zd (w:World):GD w w:=⟨0,#[],by rw [grow_empty];rfl⟩
theorem Jy {o:Obj} (h:GD w v):GD w (v.alloc o):=by
 obtain ⟨q,os,rfl⟩:=h;exact ⟨q,os ++ #[o],by rw [alloc_eq_grow,grow_grow]⟩
theorem Yq (h:GD w v):GD w v.drew:=by
 obtain ⟨q,os,rfl⟩:=h;exact ⟨q+1,os,rfl⟩
theorem Vi {u:World} (h:GD w v) (k:GD v u):GD w u:=by
 obtain ⟨q,os,rfl⟩:=h;obtain ⟨b,a,rfl⟩:=k;refine ⟨q+b,os ++ a, ?_⟩;rw [← grow_grow]
 have e:(grow (w.drewN q) os).drewN b=grow (w.drewN (q+b)) os:=by
  simp [grow,World.drewN,Nat.add_assoc]
 rw [e]
theorem gd_below (h:GD w v):Bl w v:=by
 obtain ⟨q,os,rfl⟩:=h;exact ⟨rfl,rfl,rfl,by simp [grow,World.drewN],fun k a=>heap_grow_old (w.drewN q) os a⟩
theorem compareTris_gd (a b c p q r:Int) (w:World) :
  Cl 151 #[.agg #[I a,I b,I c],.agg #[I p,I q,I r]] w fun e w'=>e=.returned (I (cmpT a b c p q r))∧GD w w':=by
 go_enter Tryz.func151,Tryz.ntmps151;go_wp2
 go_region_held3 (fun w'=>At w' w.heap.size 0 (I a)∧At w' w.heap.size 1 (I b)∧At w' w.heap.size 2 (I c)∧At w' (w.heap.size+1) 0 (I p)∧At w' (w.heap.size+1) 1 (I q)∧At w' (w.heap.size+1) 2 (I r))
  ((refine ⟨?_, ?_, ?_, ?_, ?_, ?_⟩ <;> (repeat' (first | (with_reducible assumption) | (dsimp only;omega) | (simp [go_sem];done) | (with_reducible refine Qk ?_) | (with_reducible refine Qq ?_)))))
  (first | (go_at_call 44;refine (Yn _ _ _).mono ?_;rintro e d ⟨rfl,rfl⟩) | (go_at_call 42;refine (or3_any (cmp3 b q) (cmp3 a p) (cmp3 c r) _ _ _ ε ε ε).mono ?_;rintro e f ⟨rfl,rfl⟩))
 all_goals
  go_wp2;go_ret;refine ⟨rfl, ?_⟩;with_reducible repeat' (first | exact Zd _ | refine Jy ?_ | refine Yq ?_)
structure Kig (W:World) where
 w:World
 h:GD W w
theorem Kig.cells (W:World):∀ (n:Kig W) (b o:Nat),b<W.heap.size→n.w.cell? ⟨b,o,none⟩=W.cell? ⟨b,o,none⟩:=fun n b o a=>(gd_below n.h).cell (p:=⟨b,o,none⟩) a
theorem wp_region_kig {P:Program} {e:Nat} {Q:Exit→Act→World→Prop} {a:Act} {W:World} {l:List Oper} (d:P.follows .mixedOrders=true) (c:Region.lexB .any l.toArray=true)
  (h:wpQuiet P l.toArray (fun w'=>∃ n:Kig W,w'=n.w) (fun b=>∀ w',(∃ n:Kig W,w'=n.w)→Q .normal b w') l a):(Code.region e l.toArray true).wp P Q a W :=
 wp_region_quiet (C:=fun w'=>∃ n:Kig W,w'=n.w) d c ⟨⟨W.drew,Yq (Zd _)⟩,rfl⟩ (by simpa using h)
theorem kig_of {P:Program} {f:FuncId} {args:Array Value} {W:World} {n:Kig W} {v:Value}
  (h:Calls P f args n.w fun e w'=>e=.returned v∧GD n.w w'):Calls P f args n.w fun e a=>e=.returned v∧∃ m:Kig W,a=m.w :=
 h.mono fun _ w' ⟨c,b⟩=>⟨c,⟨w',Vi n.h b⟩,rfl⟩
def At3 (w:World) (g o:Nat) (t:T3):Prop:=At w g o (I t.1)∧At w g (o+1) (I t.2.1)∧At w g (o+2) (I t.2.2)
theorem piledCmp_gd (w:World) (x c n N q f A r g B i j:Nat) (s t:T3) (hp:At w x 4 (.slice (Az c) n N)) (F:0<f) (G:0<g) (D:At w q 0 (I (i:Int))) (E:At w r 0 (I (j:Int))) (hi:i<n) (T:j<n) (hs:At3 w c (i*3) s) (H:At3 w c (j*3) t) :
  Cl 264 #[.slice (Az q) f A,.slice (Az r) g B,.pointer (Az x)] w fun e w'=>e=.returned (I (cmpT s.1 s.2.1 s.2.2 t.1 t.2.1 t.2.2))∧GD w w':=by
 obtain ⟨k,l,m⟩:=s;obtain ⟨o,p,t3⟩:=t;obtain ⟨v,L,M⟩:=hs;obtain ⟨O,P,Q⟩:=H;dsimp only at v L M O P Q;dsimp only;have C:Hid (∀ b:World,Cl 151 #[.agg #[I k,I l,I m],.agg #[I o,I p,I t3]] b fun e w'=>e=.returned (I (cmpT k l m o p t3))∧GD b w'):=fun b=>compareTris_gd _ _ _ _ _ _ b;generalize cmpT k l m o p t3=z at C ⊢;have z1:=Bt hp;have z2:=Bt D;have z3:=Bt E;have z4:=Bt v;have U:(i:Int)<(n:Int):=γ;have V:(j:Int)<(n:Int):=γ;have W:(0:Int)<(f:Int):=γ;have X:(0:Int)<(g:Int):=γ;have k1:(0:Int)≤(i:Int):=γ;have k2:(0:Int)≤(j:Int):=γ;go_enter Tryz.func264,Tryz.ntmps264;go_wp2;have J:=Kig.cells w;have K:Nonempty (Kig w):=⟨⟨w,Zd _⟩⟩;refine wp_region_kig η η ?_;repeat (go_big_quiet_step ((go_at_call 151;exact kig_of (C.out _))))
 refine wpQuiet_nil ?_;intro R d;obtain ⟨u,a⟩:=d;have hq:GD w R:=a ▸ u.h;clear a u J K;have y:=Hd hq;clear hq;go_wp2;go_ret;exact ⟨rfl,y.out⟩
end Go.Proofs.YtnpboeodhpenmaaGreatDoor
