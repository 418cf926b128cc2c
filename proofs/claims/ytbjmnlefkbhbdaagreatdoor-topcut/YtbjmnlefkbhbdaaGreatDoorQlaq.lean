/- A part of it. -/
import Derived.Test.YtbjmnlefkbhbdaaGreatDoorQlal
set_option maxRecDepth 100000
set_option maxHeartbeats 40000000
namespace Go.Proofs.YtbjmnlefkbhbdaaGreatDoor
open Go.RowKit
variable {n:Nat} {w:World}
def grwF (F:List (List T3)) (p:Nat):List (List T3):=if p=F.length then F ++ [[]] else F
def putF (F:List (List T3)) (p:Nat) (t:T3):List (List T3):=(grwF F p).set p ((grwF F p).getD p [] ++ [t])
def fcs (L:List T3) (part:Nat→Int):Nat→List (List T3)
 | 0=>[]
 | i+1=>putF (fcs L part i) (part i).toNat (L.getD i (0,0,0))
theorem Ug (F:List (List T3)) (p:Nat):(grwF F p).length=if p=F.length then F.length+1 else F.length:=by
 unfold grwF;split <;> simp
theorem putF_len (F:List (List T3)) (p:Nat) (t:T3):(putF F p t).length=if p=F.length then F.length+1 else F.length:=by
 unfold putF;rw [List.length_set,Ug]
theorem fcs_le (L:List T3) (part:Nat→Int):∀ i,(fcs L part i).length≤i
 | 0=>by simp [fcs]
 | i+1=>by
  rw [fcs,putF_len];have:=fcs_le L part i;split <;> omega
theorem grwF_row {F:List (List T3)} {p:Nat} (h:∀ f∈F,f.length≤n):∀ f∈grwF F p,f.length≤n:=by
 intro f a;unfold grwF at a;split at a
 ·rcases List.mem_append.1 a with q | q
  ·exact h f q
  ·simp at q;subst q;exact Nat.zero_le _
 ·exact h f a
theorem fcs_row (L:List T3) (part:Nat→Int):∀ i,∀ f∈fcs L part i,f.length≤i
 | 0,f,hf=>by simp [fcs] at hf
 | i+1,f,hf=>by
  have h1:=grwF_row (p:=(part i).toNat) (fcs_row L part i);rw [fcs,putF] at hf;rcases List.mem_or_eq_of_mem_set hf with q | q
  ·have:=h1 f q;omega
  ·subst q;rw [List.length_append,List.getD_eq_getElem?_getD]
   cases e:(grwF (fcs L part i) (part i).toNat)[(part i).toNat]? with
   | none=>simp
   | some f2 =>
    have:=h1 f2 (List.mem_of_getElem? e);simp;omega
def NumOk (part:Nat→Int) (n:Nat):Prop:=(∀ a,a<n→0≤part a)∧∀ a,a<n→∀ c,0≤c→c<part a→∃ b,b<a∧part b=c
theorem PartsOk.num {cr:E4→Bool} {L:List T3} {part:Nat→Int} (h:PartsOk cr L part):NumOk part L.length:=⟨h.1,h.2.2.2⟩
theorem fcs_has (L:List T3) (part:Nat→Int) (h:NumOk part n):∀ i,i≤n→(∀ b,b<i→part b<((fcs L part i).length:Int))∧(i<n→part i≤((fcs L part i).length:Int))
 | 0,hi=>⟨fun b hb=>by omega,fun h0=>by
  rcases Int.lt_or_le 0 (part 0) with q | q
  ·obtain ⟨b,hb,_⟩:=h.2 0 h0 0 γ q;omega
  ·simpa [fcs] using q⟩
 | i+1,hi=>by
  obtain ⟨h1,h2⟩:=fcs_has L part h i γ;have h3:=h2 γ;have h0:=h.1 i γ
  have hl:((fcs L part (i+1)).length:Int)=if part i=((fcs L part i).length:Int) then ((fcs L part i).length:Int)+1 else ((fcs L part i).length:Int):=by
   rw [fcs,putF_len];by_cases e:part i=((fcs L part i).length:Int)
   ·rw [if_pos e,if_pos γ];omega
   ·rw [if_neg e,if_neg γ]
  have h4:∀ b,b<i+1→part b<((fcs L part (i+1)).length:Int):=fun b hb=>by
   rw [hl];by_cases e:b=i
   ·subst e;split <;> omega
   ·have:=h1 b γ;split <;> omega
  refine ⟨h4,fun a=>?_⟩;rcases Int.lt_or_le ((fcs L part (i+1)).length:Int) (part (i+1)) with q | q
  ·obtain ⟨b,hb,e⟩:=h.2 (i+1) a _ γ q;have:=h4 b hb;omega
  ·exact q
theorem infS:(Tryz.prog.info? 40).map (fun i=>(i.zero,i.size,i.bytes))=some (some SN,1,24):=μ
theorem infT:(Tryz.prog.info? 44).map (fun i=>(i.zero,i.size,i.bytes))=some (some (.agg #[I 0,I 0,I 0]),3,24):=μ
def FW (w1 wx:World) (v:Value) (F:List (List T3)):Prop:=Nest wx w1.heap.size v F∧Bl w1 wx
theorem Jd {P:Program} {o:Oper} {a:Act} {K:Act→World→Prop} {Q:Exit→Act→World→Prop} (s x:Operand) (t:TypeId) (e:o.op=.call { callee:=.builtin .append,args:=#[s,x],argTypes:=#[t,t] }) (b c v':Value) (w':World) (hs:a.eval s=b) (f:a.eval x=c) (hr:(Builtin.append_ #[t,t] o.type #[b,c]).run P w=.ok v' w') (d:K (a.put o.dst v') w'):Oper.wp P o a w K Q:=by
 unfold Oper.wp execOp;simp only [e,resolve,invoke,builtin,Sem.run_bind,Sem.run_pure,Result.andThen_ok,List.map_toArray,List.map_cons,List.map_nil,hs,f,hr];exact d
theorem Nest.mono {base a:Nat} {v:Value} {F:List (List T3)} (h:Nest w base v F) (hb:a≤base):Nest w a v F:=by
 have le:∀ {e:TypeId} {size n:Nat} {v:Value} {xs:List Value},w.ownsRow base e size v n xs→w.ownsRow a e size v n xs:=fun h=>by
  refine ⟨h.1,h.2.imp id ?_⟩;rintro ⟨g,b,c,h1,h2,h3⟩;exact ⟨g,b,c,h1,Nt hb h2,h3⟩
 obtain ⟨i,h1,h2,h3,h4⟩:=h;exact ⟨i,h1,le h2,fun n d f=>le (h3 n d f),h4⟩
theorem Qt {base size:Nat} {e:TypeId} {v:Value} {d:List Value} (h:w.ownsRow base e size v n d):∃ a b,v=.slice a n b∧(0<n→∃ g,a=Az g):=by
 rcases h.2 with ⟨rfl,rfl⟩ | ⟨g,b,c,rfl,_⟩
 ·exact ⟨none,0,rfl,fun h=>by omega⟩
 ·exact ⟨_,b,rfl,fun _=>⟨g,rfl⟩⟩
theorem gathered_any (w:World) (cc ra rk g bj:Nat) (ad:Option Addr) (L:List T3) (part:Nat→Int) (hT:TRow w ad L) (hZ:ZRow w g L.length part) (ag:NumOk part L.length) (hL:L.length≤300) :
  Cl 18 #[.agg #[.slice ad L.length cc,.map (some ra),.map (some rk)],.slice (some ⟨g,0,none⟩) L.length bj] w fun e w'=>∃ v,e=.returned v∧Nest w' w.heap.size v (fcs L part L.length)∧Bl w w':=by
 have HT:Hid (TRow w ad L):=hT;have b9:Hid (ZRow w g L.length part∧NumOk part L.length):=⟨hZ,ag⟩;obtain ⟨iS,bc,aj,ak,am⟩:=info_parts infS;have aa:Hid (Tryz.prog.info? 40=some iS∧iS.zero=some SN∧iS.size=1∧iS.bytes=24):=⟨bc,aj,ak,am⟩;obtain ⟨iT,be,an,ao,ap⟩:=info_parts infT;have J:Hid (Tryz.prog.info? 44=some iT∧iT.zero=some (.agg #[I 0,I 0,I 0])∧iT.size=3∧iT.bytes=24):=⟨be,an,ao,ap⟩;clear hT hZ ag bc aj ak am be an ao ap;go_enter Tryz.func18,Tryz.ntmps18;go_upto_region 2 with fail
 refine Qj (fun w1 ae=>?_)
 have HW:Hid (ZRow w1 g L.length part∧NumOk part L.length∧Bl w w1∧w1.cell? ⟨w.heap.size,0,none⟩=some (.slice ad L.length cc)∧w.heap.size<w1.heap.size):=by
  have hb:Bl w w1:=by (try simp only [At,I,Fn,Az,Ad]);rw [ae];exact Qc (Qd _)
  exact ⟨b9.out.1.kept hb,b9.out.2,hb,by (try simp only [At,I,Fn,Az,Ad]);rw [ae];simp [go_sem],by (try simp only [At,I,Fn,Az,Ad]);rw [ae];simp⟩
 clear ae;obtain ⟨pb,ac⟩:∃ p,p=w.heap.size:=⟨_,rfl⟩;have bs:Hid (pb=w.heap.size):=ac
 have b8:Hid (w1.cell? ⟨pb,0,none⟩=some (.slice ad L.length cc)):=by
  have:w1.cell? ⟨pb,0,none⟩=some (.slice ad L.length cc):=by (try simp only [At,I,Fn,Az,Ad]);rw [ac];exact HW.out.2.2.2.1
  exact this
 (try simp only [At,I,Fn,Az,Ad]);rw [← ac]
 clear ac;go_wp2;go_loopg [5,10] L.length (fun gk s5 br W=>∃ i:Nat,i≤L.length∧gk=L.length - i∧br=I (i:Int)∧FW w1 W s5 (fcs L part i))
 case atStart=>exact ⟨0,γ,rfl,rfl,nest_nil _ _,Qd _⟩
 case round =>
  obtain ⟨i,hi,rfl,rfl,hF⟩:=hrel;obtain ⟨vA,bq⟩:∃ u,u=u5:=⟨_,rfl⟩;subst bq;have HF:Hid (FW w1 wr vA (fcs L part i)):=hF;clear hF;by_cases h1:i<L.length
  ·have i1:(i:Int)<(L.length:Int):=γ;have i0:(0:Int)≤(i:Int):=γ;have ah:=fcs_has L part HW.out.2.1 i hi;have b7:=HW.out.2.1.1 i h1;have bf:=fcs_le L part i;obtain ⟨p,hp⟩:∃ p:Nat,part i=(p:Int):=⟨(part i).toNat,γ⟩;have bi:p≤(fcs L part i).length:=by have:=ah.2 h1;omega
   have HN:Hid (fcs L part (i+1)=putF (fcs L part i) p L[i]):=by
    have:fcs L part (i+1)=putF (fcs L part i) p L[i]:=by
     (try simp only [At,I,Fn,Az,Ad]);rw [fcs,hp,List.getD_eq_getElem?_getD,List.getElem?_eq_getElem h1]
     rfl
    exact this
   have ab:Hid (∀ f∈fcs L part i,f.length≤i):=fcs_row L part i;clear ah b7;obtain ⟨F,bb⟩:∃ F,F=fcs L part i:=⟨_,rfl⟩;(try simp only [At,I,Fn,Az,Ad] at HF HN bi bf ab);rw [← bb] at HF HN bi bf ab
   clear bb;obtain ⟨af,av⟩:=HF.out.1;obtain ⟨a4,c4,rfl,Y⟩:=Qt av.2.1;have bm:Hid (0<F.length→∃ g,a4=some ⟨g,0,none⟩):=Y;clear Y;have z0:=Qa HF.out.2 (HW.out.1 i h1).1;(try simp only [I] at z0);rw [hp] at z0
   have zz:g<wr.heap.size:=bk z0;have X:Hid (NestV wr w1.heap.size (.slice a4 F.length c4) F af):=av;clear av
   have b5:(grwF F p).length≤i+1:=by
    (try simp only [At,I,Fn,Az,Ad]);rw [Ug]
    split <;> omega
   have C:p<(grwF F p).length:=by
    (try simp only [At,I,Fn,Az,Ad]);rw [Ug]
    split <;> omega
   by_cases he:p=F.length
   ·have ax:((F.length:Int)=(p:Int)):=γ
    have HG:Hid (grwF F p=F ++ [[]]):=by
     have:grwF F p=F ++ [[]]:=by simp [grwF,he]
     exact this
    go_wp2_with (at_builtin;refine wpList_append_own_at _ rfl (.tmp 19) (.tmp 20) 36 rfl w1.heap.size 40 iS SN 1 24 Tryz.underlying36 aa.out.1 aa.out.2.1 aa.out.2.2.1 aa.out.2.2.2 rfl τ (.slice a4 F.length c4) F.length af rfl ?own ⟨wr.heap.size,0,none⟩ 1 1 [SN] rfl rfl ?c1 ?c2 ?b1 ?b2 ?b3 ?grow)
    case own=>exact Qh X.out.2.1 β1
    case c1 =>
     intro j u Z;match j,Z with
     | 0,Z=>simp at Z;subst Z;simp [go_sem,Addr.add]
    case c2 =>
     intro u Z;simp at Z;subst Z;rfl
    case b1 =>
     unfold maxLen;omega
    case b2=>omega
    case b3 =>
     have:=HF.out.2.size;simp;omega
    case grow =>
     intro v' w3 ai T bh bo
     have a2:NestV w3 w1.heap.size v' (grwF F p) (af ++ [SN]):=by
      (try simp only [At,I,Fn,Az,Ad]);rw [HG.out]
      exact (X.out.kept β1).more ai T
     have ba:Bl w1 w3:=(Qc HF.out.2).grown T (by have:=HF.out.2.size;simp;omega) (Qn X.out.2.1);clear ai T bh bo X HF HG he ax z0 zz;obtain ⟨G,hG⟩:∃ G,G=grwF F p:=⟨_,rfl⟩;have aq:Hid (∀ f∈grwF F p,f.length≤i):=grwF_row ab.out;(try simp only [At,I,Fn,Az,Ad] at a2 b5 C aq);rw [← hG] at a2 b5 C aq
     obtain ⟨a5,c5,rfl,s⟩:=Qt a2.2.1;obtain ⟨g4,rfl⟩:=s γ;obtain ⟨VS,r⟩:∃ VS,Hid (NestV w3 w1.heap.size (.slice (some ⟨g4,0,none⟩) G.length c5) G VS):=⟨_,a2⟩;have Q:Hid (Bl w1 w3):=ba
     have D:Hid (fcs L part (i+1)=G.set p (G.getD p [] ++ [L[i]])):=by
      have:fcs L part (i+1)=G.set p (G.getD p [] ++ [L[i]]):=by (try simp only [At,I,Fn,Az,Ad]);rw [HN.out,hG];rfl
      exact this
     clear a2 ba hG HN;go_wp2;have bp:(p:Int)<(G.length:Int):=γ;have b7:(0:Int)≤(p:Int):=γ;have o:p<VS.length:=by (try simp only [At,I,Fn,Az,Ad]);rw [r.out.1];exact C
     have a8:=r.out.2.2.1 p o C;obtain ⟨a6,c6,c,ay⟩:=Qt a8;obtain ⟨B,z⟩:∃ n,n=G[p].length:=⟨_,rfl⟩;(try simp only [At,I,Fn,Az,Ad] at c);rw [← z] at c
     have bg:B≤i:=by (try simp only [At,I,Fn,Az,Ad]);rw [z];exact aq.out _ (Lm C)
     have e0:w3.cell? ⟨g4,p,none⟩=some (.slice a6 B c6):=by
      (try simp only [At,I,Fn,Az,Ad]);rw [r.out.2.1.cellAt p γ,List.getElem?_eq_getElem o,c]
     have aw:=(HT.out.kept HW.out.2.2.1) i h1;obtain ⟨k,rfl,t0,t1,t2⟩:=aw;obtain ⟨t,ht⟩:∃ t,t=L[i]:=⟨_,rfl⟩;obtain ⟨x,y,q⟩:=t;(try simp only [At,I] at t0 t1 t2 D);rw [← ht] at t0 t1 t2 D
     dsimp only at t0 t1 t2;have E:Hid (w1.cell? ⟨pb,0,none⟩=some (.slice (some ⟨k,0,none⟩) L.length cc)∧w1.cell? ⟨k,i*3,none⟩=some (I x)∧w1.cell? ⟨k,i*3+1,none⟩=some (I y)∧w1.cell? ⟨k,i*3+2,none⟩=some (I q)):=⟨b8.out,t0,t1,t2⟩;have b:Hid (∀ W:World,Bl w1 W→W.cell? ⟨pb,0,none⟩=some (.slice (some ⟨k,0,none⟩) L.length cc)∧W.cell? ⟨k,i*3,none⟩=some (I x)∧W.cell? ⟨k,i*3+1,none⟩=some (I y)∧W.cell? ⟨k,i*3+2,none⟩=some (I q)):=fun W hx=>⟨Qa hx E.out.1,Qa hx E.out.2.1,Qa hx E.out.2.2.1,Qa hx E.out.2.2.2⟩;clear ht t0 t1 t2;have m:Bl w1 ((w3.alloc (.cells #[I x,I y,I q] 44)).drew):=Qe (Qc Q.out);have H:NestV ((w3.alloc (.cells #[I x,I y,I q] 44)).drew) w1.heap.size (.slice (some ⟨g4,0,none⟩) G.length c5) G VS:=r.out.kept (Qe β1);have d:=H.2.2.1 p o C;(try simp only [I] at d);rw [c,← z] at d
     obtain ⟨u,N,hr,U,s,b6,M⟩:=run_append_own_at (P:=Tryz.prog) ((w3.alloc (.cells #[I x,I y,I q] 44)).drew) w1.heap.size 40 40 44 iT (.agg #[I 0,I 0,I 0]) 3 24 Tryz.underlying40 J.out.1 J.out.2.1 J.out.2.2.1 J.out.2.2.2 rfl τ (.slice a6 B c6) B (flatV G[p]) d ⟨w3.heap.size,0,none⟩ 1 1 [I x,I y,I q] rfl (Jq _ _ _ _) (by intro u Z;simp at Z;rcases Z with rfl | rfl | rfl <;> rfl) Γ γ (by have:=m.size;exact this);obtain ⟨a7,c7,rfl,az⟩:=Qt U;have R:Bl w1 N:=m.grown s m.size (Qn d);have hP:=H.put o C (t:=(x,y,q)) (by (try simp only [I]);rw [← z];exact U) (by (try simp only [I]);rw [c];exact s) (by (try simp only [I]);rw [c];simpa using M);have V:=H.outer o (by (try simp only [I]);rw [c];exact s);have Y:w1.heap.size≤g4:=Qn r.out.2.1 g4 rfl
     have q0:N.cell? ⟨g4,p,none⟩=some (.slice a6 B c6):=by
      (try simp only [At,I,Fn,Az,Ad]);rw [V.cellAt p γ,List.getElem?_eq_getElem o,c]
     have q1:N.frozen? ⟨g4,p,none⟩=false:=V.frozenAt p;have HP:Hid (NestV (N.setCell ⟨g4,p,none⟩ (.slice a7 (B+1) c7)) w1.heap.size (.slice (some ⟨g4,0,none⟩) G.length c5) (G.set p (G[p] ++ [(x,y,q)])) (VS.set p (.slice a7 (B+1) c7))):=hP;have l:Hid (Bl w1 N∧Bl w1 (N.setCell ⟨g4,p,none⟩ (.slice a7 (B+1) c7))):=⟨R,Qk R Y⟩;have bn:(w3.alloc (.cells #[I x,I y,I q] 44)).cell? ⟨g4,p,none⟩=some (.slice a6 B c6):=Ql e0;have ar:=b.out _ m;have O:Hid (Bl w1 (w3.alloc (.cells #[I x,I y,I q] 44)).drew):=m;clear m H d U s b6 M R hP V a8 c ay az z ar;refine wp_region_held_drew (S:=fun w'=>w'.cell? ⟨pb,0,none⟩=some (.slice (some ⟨k,0,none⟩) L.length cc)∧w'.cell? ⟨k,i*3,none⟩=some (I x)∧w'.cell? ⟨k,i*3+1,none⟩=some (I y)∧w'.cell? ⟨k,i*3+2,none⟩=some (I q)) μ (b.out _ (Qe Q.out)) (fun au=>?_);refine Tk 0 (.slice (some ⟨g4,0,none⟩) G.length c5) ?_;refine Tk 1 (I (p:Int)) ?_;refine Tk 2 (.slice (some ⟨g4,0,none⟩) G.length c5) ?_;refine Tk 3 (I (p:Int)) ?_;refine Tk 4 (.pointer (some ⟨g4,p,none⟩)) ?_;refine Tk 6 (.pointer (some ⟨pb,0,none⟩)) ?_;refine Tk 7 (.slice (some ⟨k,0,none⟩) L.length cc) ?_;refine Tk 8 (I (i:Int)) ?_;refine Tk 9 (.pointer (some ⟨k,i*3,none⟩)) ?_;refine Tk 10 (.agg #[I x,I y,I q]) ?_;refine wpAnyH_ready (rs:=[5,11]) μ ν ?_;refine AllReadyH.cons rfl (fun K a=>?_) (AllReadyH.cons rfl (fun K a=>?_) AllReadyH.nil)
     ·go_simp;refine a.out _ _ (b.out _ (Qe Q.out)) (fun h=>?_);clear a K;try simp only [Ap]
      refine Rd 11 rfl (fun K a=>?_);go_simp;refine a.out _ _ (b.out _ O.out) (fun h=>?_);clear a K;try simp only [Ap]
      refine Rd 12 rfl (fun K a=>?_);(try simp only);rw [if_pos γ2]
      refine Jd (.tmp 27) (.tmp 33) 40 rfl _ _ (.slice a7 (B+1) c7) N rfl rfl hr ?_;refine a.out _ _ (b.out _ l.out.1) (fun h=>?_);clear a K;try simp only [Ap]
      refine Tk 13 (.pointer (some ⟨g4,p,none⟩)) ?_;refine Rd 14 rfl (fun K a=>?_);go_simp;refine a.out _ _ (b.out _ l.out.2) (fun h=>?_);clear a K;try simp only [Ap]
      refine wpAnyH_done μ ?_ _;go_wp2;go_roundg (L.length - (i+1))
      case measure=>omega
      case rel=>exact ⟨i+1,γ,rfl,σ,⟨_,by (try simp only [At,I,Fn,Az,Ad]);rw [D.out,List.getD_eq_getElem?_getD,List.getElem?_eq_getElem C];simpa using HP.out⟩,l.out.2⟩
     ·go_simp;refine a.out _ _ (b.out _ O.out) (fun h=>?_);clear a K;try simp only [Ap]
      refine Rd 5 rfl (fun K a=>?_);go_simp;refine a.out _ _ (b.out _ O.out) (fun h=>?_);clear a K;try simp only [Ap]
      refine Rd 12 rfl (fun K a=>?_);(try simp only);rw [if_pos γ2]
      refine Jd (.tmp 27) (.tmp 33) 40 rfl _ _ (.slice a7 (B+1) c7) N rfl rfl hr ?_;refine a.out _ _ (b.out _ l.out.1) (fun h=>?_);clear a K;try simp only [Ap]
      refine Tk 13 (.pointer (some ⟨g4,p,none⟩)) ?_;refine Rd 14 rfl (fun K a=>?_);go_simp;refine a.out _ _ (b.out _ l.out.2) (fun h=>?_);clear a K;try simp only [Ap]
      refine wpAnyH_done μ ?_ _;go_wp2;go_roundg (L.length - (i+1))
      case measure=>omega
      case rel=>exact ⟨i+1,γ,rfl,σ,⟨_,by (try simp only [At,I,Fn,Az,Ad]);rw [D.out,List.getD_eq_getElem?_getD,List.getElem?_eq_getElem C];simpa using HP.out⟩,l.out.2⟩
   ·have ax:¬ ((p:Int)=(F.length:Int)):=γ;have A:p<F.length:=γ;obtain ⟨g4,rfl⟩:=bm.out γ;obtain ⟨VS,r⟩:∃ VS,Hid (NestV wr w1.heap.size (.slice (some ⟨g4,0,none⟩) F.length c4) F VS):=⟨af,X.out⟩;have Q:Hid (Bl w1 wr):=HF.out.2
    have D:Hid (fcs L part (i+1)=F.set p (F.getD p [] ++ [L[i]])):=by
     have hg:grwF F p=F:=by simp [grwF,he]
     have:fcs L part (i+1)=F.set p (F.getD p [] ++ [L[i]]):=by (try simp only [At,I,Fn,Az,Ad]);rw [HN.out,putF,hg]
     exact this
    clear X HF HN;go_wp2;clear he ax z0 zz b5 C;have bp:(p:Int)<(F.length:Int):=γ;have b7:(0:Int)≤(p:Int):=γ;have o:p<VS.length:=by (try simp only [At,I,Fn,Az,Ad]);rw [r.out.1];exact A
    have a8:=r.out.2.2.1 p o A;obtain ⟨a6,c6,c,ay⟩:=Qt a8;obtain ⟨B,z⟩:∃ n,n=F[p].length:=⟨_,rfl⟩;(try simp only [At,I,Fn,Az,Ad] at c);rw [← z] at c
    have bg:B≤i:=by (try simp only [At,I,Fn,Az,Ad]);rw [z];exact ab.out _ (Lm A)
    have e0:wr.cell? ⟨g4,p,none⟩=some (.slice a6 B c6):=by
     (try simp only [At,I,Fn,Az,Ad]);rw [r.out.2.1.cellAt p γ,List.getElem?_eq_getElem o,c]
    have aw:=(HT.out.kept HW.out.2.2.1) i h1;obtain ⟨k,rfl,t0,t1,t2⟩:=aw;obtain ⟨t,ht⟩:∃ t,t=L[i]:=⟨_,rfl⟩;obtain ⟨x,y,q⟩:=t;(try simp only [At,I] at t0 t1 t2 D);rw [← ht] at t0 t1 t2 D
    dsimp only at t0 t1 t2;have E:Hid (w1.cell? ⟨pb,0,none⟩=some (.slice (some ⟨k,0,none⟩) L.length cc)∧w1.cell? ⟨k,i*3,none⟩=some (I x)∧w1.cell? ⟨k,i*3+1,none⟩=some (I y)∧w1.cell? ⟨k,i*3+2,none⟩=some (I q)):=⟨b8.out,t0,t1,t2⟩;have b:Hid (∀ W:World,Bl w1 W→W.cell? ⟨pb,0,none⟩=some (.slice (some ⟨k,0,none⟩) L.length cc)∧W.cell? ⟨k,i*3,none⟩=some (I x)∧W.cell? ⟨k,i*3+1,none⟩=some (I y)∧W.cell? ⟨k,i*3+2,none⟩=some (I q)):=fun W hx=>⟨Qa hx E.out.1,Qa hx E.out.2.1,Qa hx E.out.2.2.1,Qa hx E.out.2.2.2⟩;clear ht t0 t1 t2;have m:Bl w1 ((wr.alloc (.cells #[I x,I y,I q] 44)).drew):=Qe (Qc Q.out);have H:NestV ((wr.alloc (.cells #[I x,I y,I q] 44)).drew) w1.heap.size (.slice (some ⟨g4,0,none⟩) F.length c4) F VS:=r.out.kept (Qe β1);have d:=H.2.2.1 p o A;(try simp only [I] at d);rw [c,← z] at d
    obtain ⟨u,N,hr,U,s,b6,M⟩:=run_append_own_at (P:=Tryz.prog) ((wr.alloc (.cells #[I x,I y,I q] 44)).drew) w1.heap.size 40 40 44 iT (.agg #[I 0,I 0,I 0]) 3 24 Tryz.underlying40 J.out.1 J.out.2.1 J.out.2.2.1 J.out.2.2.2 rfl τ (.slice a6 B c6) B (flatV F[p]) d ⟨wr.heap.size,0,none⟩ 1 1 [I x,I y,I q] rfl (Jq _ _ _ _) (by intro u Z;simp at Z;rcases Z with rfl | rfl | rfl <;> rfl) Γ γ (by have:=m.size;exact this);obtain ⟨a7,c7,rfl,az⟩:=Qt U;have R:Bl w1 N:=m.grown s m.size (Qn d);have hP:=H.put o A (t:=(x,y,q)) (by (try simp only [I]);rw [← z];exact U) (by (try simp only [I]);rw [c];exact s) (by (try simp only [I]);rw [c];simpa using M);have V:=H.outer o (by (try simp only [I]);rw [c];exact s);have Y:w1.heap.size≤g4:=Qn r.out.2.1 g4 rfl
    have q0:N.cell? ⟨g4,p,none⟩=some (.slice a6 B c6):=by
     (try simp only [At,I,Fn,Az,Ad]);rw [V.cellAt p γ,List.getElem?_eq_getElem o,c]
    have q1:N.frozen? ⟨g4,p,none⟩=false:=V.frozenAt p;have HP:Hid (NestV (N.setCell ⟨g4,p,none⟩ (.slice a7 (B+1) c7)) w1.heap.size (.slice (some ⟨g4,0,none⟩) F.length c4) (F.set p (F[p] ++ [(x,y,q)])) (VS.set p (.slice a7 (B+1) c7))):=hP;have l:Hid (Bl w1 N∧Bl w1 (N.setCell ⟨g4,p,none⟩ (.slice a7 (B+1) c7))):=⟨R,Qk R Y⟩;have bn:(wr.alloc (.cells #[I x,I y,I q] 44)).cell? ⟨g4,p,none⟩=some (.slice a6 B c6):=Ql e0;have ar:=b.out _ m;have O:Hid (Bl w1 (wr.alloc (.cells #[I x,I y,I q] 44)).drew):=m;clear m H d U s b6 M R hP V a8 c ay az z ar;refine wp_region_held_drew (S:=fun w'=>w'.cell? ⟨pb,0,none⟩=some (.slice (some ⟨k,0,none⟩) L.length cc)∧w'.cell? ⟨k,i*3,none⟩=some (I x)∧w'.cell? ⟨k,i*3+1,none⟩=some (I y)∧w'.cell? ⟨k,i*3+2,none⟩=some (I q)) μ (b.out _ (Qe Q.out)) (fun au=>?_);refine Tk 0 (.slice (some ⟨g4,0,none⟩) F.length c4) ?_;refine Tk 1 (I (p:Int)) ?_;refine Tk 2 (.slice (some ⟨g4,0,none⟩) F.length c4) ?_;refine Tk 3 (I (p:Int)) ?_;refine Tk 4 (.pointer (some ⟨g4,p,none⟩)) ?_;refine Tk 6 (.pointer (some ⟨pb,0,none⟩)) ?_;refine Tk 7 (.slice (some ⟨k,0,none⟩) L.length cc) ?_;refine Tk 8 (I (i:Int)) ?_;refine Tk 9 (.pointer (some ⟨k,i*3,none⟩)) ?_;refine Tk 10 (.agg #[I x,I y,I q]) ?_;refine wpAnyH_ready (rs:=[5,11]) μ ν ?_;refine AllReadyH.cons rfl (fun K a=>?_) (AllReadyH.cons rfl (fun K a=>?_) AllReadyH.nil)
    ·go_simp;refine a.out _ _ (b.out _ (Qe Q.out)) (fun h=>?_);clear a K;try simp only [Ap]
     refine Rd 11 rfl (fun K a=>?_);go_simp;refine a.out _ _ (b.out _ O.out) (fun h=>?_);clear a K;try simp only [Ap]
     refine Rd 12 rfl (fun K a=>?_);(try simp only);rw [if_pos γ2]
     refine Jd (.tmp 27) (.tmp 33) 40 rfl _ _ (.slice a7 (B+1) c7) N rfl rfl hr ?_;refine a.out _ _ (b.out _ l.out.1) (fun h=>?_);clear a K;try simp only [Ap]
     refine Tk 13 (.pointer (some ⟨g4,p,none⟩)) ?_;refine Rd 14 rfl (fun K a=>?_);go_simp;refine a.out _ _ (b.out _ l.out.2) (fun h=>?_);clear a K;try simp only [Ap]
     refine wpAnyH_done μ ?_ _;go_wp2;go_roundg (L.length - (i+1))
     case measure=>omega
     case rel=>exact ⟨i+1,γ,rfl,σ,⟨_,by (try simp only [At,I,Fn,Az,Ad]);rw [D.out,List.getD_eq_getElem?_getD,List.getElem?_eq_getElem A];simpa using HP.out⟩,l.out.2⟩
    ·go_simp;refine a.out _ _ (b.out _ O.out) (fun h=>?_);clear a K;try simp only [Ap]
     refine Rd 5 rfl (fun K a=>?_);go_simp;refine a.out _ _ (b.out _ O.out) (fun h=>?_);clear a K;try simp only [Ap]
     refine Rd 12 rfl (fun K a=>?_);(try simp only);rw [if_pos γ2]
     refine Jd (.tmp 27) (.tmp 33) 40 rfl _ _ (.slice a7 (B+1) c7) N rfl rfl hr ?_;refine a.out _ _ (b.out _ l.out.1) (fun h=>?_);clear a K;try simp only [Ap]
     refine Tk 13 (.pointer (some ⟨g4,p,none⟩)) ?_;refine Rd 14 rfl (fun K a=>?_);go_simp;refine a.out _ _ (b.out _ l.out.2) (fun h=>?_);clear a K;try simp only [Ap]
     refine wpAnyH_done μ ?_ _;go_wp2;go_roundg (L.length - (i+1))
     case measure=>omega
     case rel=>exact ⟨i+1,γ,rfl,σ,⟨_,by (try simp only [At,I,Fn,Az,Ad]);rw [D.out,List.getD_eq_getElem?_getD,List.getElem?_eq_getElem A];simpa using HP.out⟩,l.out.2⟩
  ·have i1:¬ (i:Int)<(L.length:Int):=γ;obtain rfl:i=L.length:=γ;go_wp2;exact bodyPost_ret (v:=vA) (by simp [results,Tryz.results18,go_sem]) rfl ⟨vA,rfl,HF.out.1.mono HW.out.2.2.1.size,Qb HW.out.2.2.1 HF.out.2⟩
open Go.ChangeMaps
theorem placesOf_any (w:World) (y o x:Nat) (l:Option Addr) (L:List T3) (kd:E4→Int) (hs:Steps w) (c8:PA w l o L) (hK:KL w x kd) (hJ:Joined L) (hL:L.length≤300) (ci:L.Nodup) (ab:∀ t∈L,(0≤t.1∧t.1≤8)∧(0≤t.2.1∧t.2.1≤8)∧(0≤t.2.2∧t.2.2≤3)) :
  Cl 143 #[.agg #[.slice l L.length y,.map (some o),.map (some x)]] w fun e w'=>Bl w w'∧((∃ M,Cons kd L M∧e=.returned (.tuple #[.slice (Az (w.heap.size+1)) L.length L.length,I 0])∧MRow w' (w.heap.size+1) L.length M)∨((¬ ∃ N,Cons kd L N)∧e=.returned (.tuple #[SN,I 8]))):=by
 have cu:Hid (∀ (c:World) (i:Nat) (hi:i<L.length),Bl w c→Cl 89 #[.agg #[.slice l L.length y,.map (some o),.map (some x)],I (i:Int)] c fun e w'=>∃ v,e=.returned v∧w'.ownsRow (c.heap.size+1) 79 5 v (jl L L[i] i 3).length (flatJ (jl L L[i] i 3))∧Bl c w'):=fun c i hi z=>Xm c y o x i l L L[i].1 L[i].2.1 L[i].2.2 (hs.kept z) (c8.kept z) hi rfl hL (ab _ (Lm hi))
 have cq:Hid (∀ (c:World) (i:Nat) (hi:i<L.length) (p q r s A B C D E F:Int),Bl w c→hasT L[i] (p,q,r,s)=true→GoodM (A,B,C,D,E,F) 800000→Rt 131 #[.agg #[.slice l L.length y,.map (some o),.map (some x)],.agg #[I p,I q,I r,I s],.agg #[I A,I B,I C,I D,I E,I F]] c (mv (farM kd (p,q,r,s) (A,B,C,D,E,F)))):=fun c i hi p q r s A B C D E F z hh hm =>
  beyond_any c l L.length y o x kd p q r s A B C D E F (hK.kept z) (Zz hh (ab _ (Lm hi))).1 (Zz hh (ab _ (Lm hi))).2.1 (Zp hh (ab _ (Lm hi))) hm
 have ae:Hid (L.Nodup∧Joined L∧∀ t∈L,(0≤t.1∧t.1≤8)∧(0≤t.2.1∧t.2.1≤8)∧(0≤t.2.2∧t.2.2≤3)):=⟨ci,hJ,ab⟩;have h0:0<L.length:=hJ.1;clear hJ;obtain ⟨i3,cb,ay,az,b6⟩:=info_parts inf3;have HI:=H4 cb ay az b6;obtain ⟨i6,cd,b7,b8,b9⟩:=info_parts inf59;have an:=H4 cd b7 b8 b9;have ef:(0:Int)<(L.length:Int):=γ;have he:=eqlM;have hn:=neqM;clear hs c8 hK ci ab cb ay az b6 cd b7 b8 b9;go_enter Tryz.func143,Tryz.ntmps143;go_wp2_with (at_make;refine wpList_make_full _ rfl (.tmp 13) (.tmp 13) 27 rfl (w.heap.size+1) 48 i6 (.agg #[I 0,I 0,I 0,I 0,I 0,I 0]) 6 Tryz.underlying27 an.out.1 an.out.2.1 an.out.2.2.1 .i64 .i64 _ _ L.length rfl rfl rfl rfl ?b2 ?b3 ?b4 ?mk)
 case b2 =>
  rw [an.out.2.2.2];omega
 case b3 =>
  unfold maxLen;omega
 case b4=>simp
 case mk =>
  intro w2 ho hg;have a8:=maps_made ho;have db:w.heap.size+1<w2.heap.size:=bk (a8 0 h0).1.1
  have c9:Bl w w2:=by
   have:Below (w.alloc (.cells #[.slice l L.length y,.map (some o),.map (some x)] 65)).heap.size (w.alloc (.cells #[.slice l L.length y,.map (some o),.map (some x)] 65)) w2:=(Below.refl _ _).grown hg (Nr _) (fun k h=>by cases h);exact Qb β1 this
  have cj:PB w2 w.heap.size l L.length y o x:=by
   have h3:PB (w.alloc (.cells #[.slice l L.length y,.map (some o),.map (some x)] 65)) w.heap.size l L.length y o x:=by simp [PB,go_sem]
   exact ⟨hg.cell h3.1 ν,hg.cell h3.2.1 ν,hg.cell h3.2.2 ν⟩
  have U:=H3 a8 c9 cj;obtain ⟨⟨a0,a1,a2,a3,a4,a5⟩,b0,b1,b2,b3,b4,b5⟩:=a8 0 h0;simp only [Nat.zero_mul,Nat.zero_add,noM] at a0 a1 a2 a3 a4 a5 b0 b1 b2 b3 b4 b5;obtain ⟨p0,p1,p2⟩:=cj;clear ho hg a8 c9;have cg:w.heap.size<w2.heap.size:=γ;have ch:w.heap.size<w2.heap.size+1:=γ;go_wp2;go_loopg [5,22] L.length (fun gk s5 dk wx=>∃ (n:Nat) (R:List Nat) (M:Nat→M6),n≤L.length∧gk=L.length - n∧dk=I (n:Int)∧MI kd L R M∧(∀ q,q ∉ R→M q=noM)∧(n≤R.length∧∀ m (hm:m<R.length),m<n→EdN kd L R M R[m] 3)∧PlM w wx l L.length y o x M R s5)
  case atStart =>
   refine ⟨0,[0],fun q=>if q=0 then idM else noM,γ,rfl,rfl,MI.start h0 ν,fun q hq=>by simp at hq;simp [hq],⟨ν,fun m _ h=>by omega⟩, ?_⟩;have ai:=Jw w2 (w.heap.size+1) 0 idM;have ed:=ai.size;refine ⟨(U.out.1.set6 h0 idM).kept β1, ?_, ?_, ?_, ?_⟩
   ·have:=owns_one (set6 w2 (w.heap.size+1) 0 idM) (w.heap.size+1+1) (I 0) γ;simpa [rowN,set6,idM] using this
   ·exact Qc (U.out.2.1.grown ai U.out.2.1.size (fun k hk=>by simp at hk;omega))
   ·have h3:PB (set6 w2 (w.heap.size+1) 0 idM) w.heap.size l L.length y o x:=⟨ai.cell U.out.2.2.1 ν,ai.cell U.out.2.2.2.1 ν,ai.cell U.out.2.2.2.2 ν⟩;exact h3.kept β1
   ·simp;omega
  case round =>
   clear U a0 a1 a2 a3 a4 a5 b0 b1 b2 b3 b4 b5 p0 p1 p2 db cg ch;obtain ⟨n,R,M,hn,rfl,rfl,hI,ac,hE,hM⟩:=hrel;obtain ⟨vA,dh⟩:∃ u,u=u5:=⟨_,rfl⟩;subst dh;have d7:0<R.length:=List.length_pos_of_mem hI.1;obtain ⟨rb,rc,rfl,df,bi⟩:=hM.slice d7;have ea:=hI.len;have HM:=Hd hM;have af:=H3 hI ac hE;obtain ⟨p0,p1,p2⟩:=hM.2.2.2.1;have zp:=Bt p0;by_cases h1:n<L.length
   ·have bh:n<R.length:=by
     rcases Nat.lt_or_ge n R.length with h | h
     ·exact h
     ·exfalso
      have ha:=(MI.cons ae.out.2.1 ae.out.1 hI (fun i hi=>by
       obtain ⟨m,hm,e⟩:=List.getElem_of_mem hi;subst e;exact hE.2 m hm γ)).1
      have:=len_of_all L.length R ha;omega
    have bj:=bi n bh;have zr:=Bt bj;have bc:R[n]∈R:=Lm bh;obtain ⟨hi,aj⟩:=hI.2.2.2.1 R[n] bc;obtain ⟨i,aq⟩:∃ i,i=R[n]:=⟨_,rfl⟩;rw [← aq] at bj hi;have ct:=Hd aq;have ba:Hid (i∈R):=by rw [aq];exact bc
    clear hI ac hE hM bi aq bc aj;have n1:(n:Int)<(L.length:Int):=γ;have i1:(n:Int)<(R.length:Int):=γ;have i0:(0:Int)≤(n:Int):=γ;have k1:(i:Int)<(L.length:Int):=γ;have k0:(0:Int)≤(i:Int):=γ;obtain ⟨J,hJ⟩:∃ J,J=jl L L[i] i 3:=⟨_,rfl⟩
    have e9:J.length≤900:=by
     have:=Uv L L[i] i 3;rw [hJ];omega
    have CJ:Hid (∀ c:World,Bl wr c→Cl 89 #[.agg #[.slice l L.length y,.map (some o),.map (some x)],I (i:Int)] c fun e w'=>∃ v,e=.returned v∧w'.ownsRow (c.heap.size+1) 79 5 v J.length (flatJ J)∧Bl c w'):=fun c z=>by
     rw [hJ];exact cu.out c i hi (Qb HM.out.2.2.1 z)
    have HJ:=Hd hJ;clear hJ;go_wp2_with (go_at_call 89;refine (CJ.out _ δ0).mono ?_;rintro e Q ⟨v8,rfl,G,hb⟩;obtain ⟨ja,jc,rfl,ak⟩:=own_jw G;have bb:Hid (JW Q (w.heap.size+1+1) ja J∧PlM w Q l L.length y o x M R (.slice (Az rb) R.length rc)):=⟨ak.mono (by have:=HM.out.2.2.2.2;omega),HM.out.kept hb⟩;clear G ak hb)
    go_loopg [5,33] J.length (fun gk s5 dl wx=>∃ (m:Nat) (Y:List Nat) (K:Nat→M6),m≤J.length∧gk=J.length - m∧dl=I (m:Int)∧MI kd L (R ++ Y) K∧(∀ q,q ∉ R ++ Y→K q=noM)∧(∀ q∈R,K q=M q)∧(∀ H (h:H<J.length),H<m→∀ j:Nat,J[H].2=(j:Int)→j∈R ++ Y∧K j=farM kd J[H].1 (K i))∧PlM w wx l L.length y o x K (R ++ Y) s5∧JW wx (w.heap.size+1+1) ja J)
    case atStart=>exact ⟨0,[],M,γ,rfl,rfl,by simpa using af.out.1,by simpa using af.out.2.1,fun q _=>rfl,fun H _ h=>by omega,by simpa using bb.out.2,bb.out.1⟩
    case round =>
     clear HM bb CJ p0 p1 p2 zp zr bj df;obtain ⟨m,Y,K,hm,rfl,rfl,hI,ac,am,hE,hM,ak⟩:=hrel;obtain ⟨vC,di⟩:∃ u,u=u5:=⟨_,rfl⟩;subst di;have a:=H4 hI ac am hE;have HM:=Hd hM;have HR:=Hd ak;clear hI ac am hE hM ak;obtain ⟨p0,p1,p2⟩:=HM.out.2.2.2.1;have zp:=Bt p0;have dt:w.heap.size<wr.heap.size+1:=γ;by_cases hm1:m<J.length
     ·have im:(m:Int)<(J.length:Int):=γ;have eg:(0:Int)≤(m:Int):=γ;obtain ⟨jb,rfl,c0,c1,c2,c3,c4⟩:=HR.out.1 m hm1;have ds:=Bt c0;obtain ⟨q,hq⟩:∃ q,q=J[m]:=⟨_,rfl⟩;obtain ⟨⟨q0,q1,q2,q3⟩,qj⟩:=q;rw [← hq] at c0 c1 c2 c3 c4;dsimp only at c0 c1 c2 c3 c4;have HQ:=Hd hq;have a7:((q0,q1,q2,q3),qj)∈jl L L[i] i 3:=by rw [← HJ.out,hq];exact Lm hm1
      obtain ⟨k,hk,cf,j,hj,rfl,ce,ar⟩:=Xw.1 a7;have be:hasT L[i] (q0,q1,q2,q3)=true:=by rw [cf];exact Xq _ _
      have aa:=H3 ce be ar;have aj:=((a.out.1.2.2.2.1 i (List.mem_append_left _ ba.out)).2).mono (C:=800000) (by have:=a.out.1.len;omega);obtain ⟨⟨y0,y1,y2,y3,y4,y5⟩,_⟩:=HM.out.1 i hi;obtain ⟨A,B,C,D,E,F,av⟩:∃ A B C D E F,K i=(A,B,C,D,E,F):=⟨_,_,_,_,_,_,rfl⟩;have e8:=Hd av;rw [av] at y0 y1 y2 y3 y4 y5 aj;dsimp only at y0 y1 y2 y3 y4 y5;obtain ⟨f0,f1,f2,f3,f4,V,ag⟩:∃ f0 f1 f2 f3 f4 V,farM kd (q0,q1,q2,q3) (A,B,C,D,E,F)=(f0,f1,f2,f3,f4,V):=⟨_,_,_,_,_,_,rfl⟩;have a6:Hid (farM kd (q0,q1,q2,q3) (K i)=(f0,f1,f2,f3,f4,V)):=by rw [av];exact ag
      have CB:Hid (∀ c:World,Bl wr c→Rt 131 #[.agg #[.slice l L.length y,.map (some o),.map (some x)],.agg #[I q0,I q1,I q2,I q3],.agg #[I A,I B,I C,I D,I E,I F]] c (.agg #[I f0,I f1,I f2,I f3,I f4,I V])):=fun c z=>by
       have h:=cq.out c i hi q0 q1 q2 q3 A B C D E F (Qb HM.out.2.2.1 z) be aj;rw [ag] at h;exact h
      have zg:=Bt y0;have dq:w.heap.size+1<wr.heap.size+1:=γ;have ij:(j:Int)<(L.length:Int):=γ;have ee:(0:Int)≤(j:Int):=γ;clear a7 cf ar hq ce be aj av ag;go_wp2;refine Qj (fun f hW0=>?_)
      have d:Hid (Bl wr f):=by
       have:Bl wr f:=Θ;exact this
      obtain ⟨T,W⟩:∃ b,b=wr.heap.size:=⟨_,rfl⟩;have x0:At f T 0 (I q0):=by rw [hW0,W];simp [go_sem]
      have x1:At f T 1 (I q1):=by rw [hW0,W];simp [go_sem]
      have x2:At f T 2 (I q2):=by rw [hW0,W];simp [go_sem]
      have x3:At f T 3 (I q3):=by rw [hW0,W];simp [go_sem]
      have x4:At f T 4 (I (j:Int)):=by rw [hW0,W];simp [go_sem]
      clear hW0;rw [← W];have zB:w.heap.size+1<T:=γ;clear W;replace p0:At f w.heap.size 0 (.slice l L.length y):=Qa d.out p0;replace p1:At f w.heap.size 1 (.map (some o)):=Qa d.out p1;replace p2:At f w.heap.size 2 (.map (some x)):=Qa d.out p2;replace y0:At f (w.heap.size+1) (i*6) (I A):=Qa d.out y0;replace y1:At f (w.heap.size+1) (i*6+1) (I B):=Qa d.out y1;replace y2:At f (w.heap.size+1) (i*6+2) (I C):=Qa d.out y2;replace y3:At f (w.heap.size+1) (i*6+3) (I D):=Qa d.out y3;replace y4:At f (w.heap.size+1) (i*6+4) (I E):=Qa d.out y4;replace y5:At f (w.heap.size+1) (i*6+5) (I F):=Qa d.out y5;have zW:=Bt p0;have dn:=Bt y0;have dp:=Bt x0;have bm:Hid (∀ c:World,Bl f c→Rt 131 #[.agg #[.slice l L.length y,.map (some o),.map (some x)],.agg #[I q0,I q1,I q2,I q3],.agg #[I A,I B,I C,I D,I E,I F]] c (.agg #[I f0,I f1,I f2,I f3,I f4,I V])):=fun c z=>CB.out c (Qb d.out z);go_cut [10] (fun dj wx=>∃ g10:Nat,dj=.pointer (Az g10)∧M1 wx g10 f0 f1 f2 f3 f4 V∧Bl f wx∧f.heap.size≤g10)
      case first =>
       go_region_held3 (fun w'=>At w' w.heap.size 0 (.slice l L.length y)∧At w' w.heap.size 1 (.map (some o))∧At w' w.heap.size 2 (.map (some x))∧At w' T 0 (I q0)∧At w' T 1 (I q1)∧At w' T 2 (I q2)∧At w' T 3 (I q3)∧At w' (w.heap.size+1) (i*6) (I A)∧At w' (w.heap.size+1) (i*6+1) (I B)∧At w' (w.heap.size+1) (i*6+2) (I C)∧At w' (w.heap.size+1) (i*6+3) (I D)∧At w' (w.heap.size+1) (i*6+4) (I E)∧At w' (w.heap.size+1) (i*6+5) (I F))
        ((refine ⟨?_, ?_, ?_, ?_, ?_, ?_, ?_, ?_, ?_, ?_, ?_, ?_, ?_⟩ <;> (repeat' (first | (with_reducible assumption) | (with_reducible refine Jt ?_ ?_) | (dsimp only;omega) | (simp [go_sem];done) | (with_reducible refine Ql ?_) | (with_reducible refine Qi ?_)))))
        ((go_at_call 131;refine (bm.out _ Ξ).mono ?_;rintro e Q ⟨rfl,hb⟩;have cl:At Q w.heap.size 0 (.slice l L.length y):=Qa hb δ;have dv:At Q w.heap.size 1 (.map (some o)):=Qa hb δ;have dw:At Q w.heap.size 2 (.map (some x)):=Qa hb δ;have cm:At Q T 0 (I q0):=Qa hb δ;have dx:At Q T 1 (I q1):=Qa hb δ;have dy:At Q T 2 (I q2):=Qa hb δ;have dz:At Q T 3 (I q3):=Qa hb δ;have co:At Q (w.heap.size+1) (i*6) (I A):=Qa hb δ;have e3:At Q (w.heap.size+1) (i*6+1) (I B):=Qa hb δ;have e4:At Q (w.heap.size+1) (i*6+2) (I C):=Qa hb δ;have e5:At Q (w.heap.size+1) (i*6+3) (I D):=Qa hb δ;have e6:At Q (w.heap.size+1) (i*6+4) (I E):=Qa hb δ;have e7:At Q (w.heap.size+1) (i*6+5) (I F):=Qa hb δ;(first | (have ah:=fresh6_a (g:=f.heap.size) rfl hb;obtain ⟨⟨bo,bp,bq,br,bs,bt⟩,⟨bu,bv,bw,bz,c5,c6⟩,c7⟩:=ah) | (have ah:=fresh6_d (g:=f.heap.size) rfl hb;obtain ⟨⟨bo,bp,bq,br,bs,bt⟩,⟨bu,bv,bw,bz,c5,c6⟩,c7⟩:=ah) | (have ah:=fresh6_dd (g:=f.heap.size) rfl hb;obtain ⟨⟨bo,bp,bq,br,bs,bt⟩,⟨bu,bv,bw,bz,c5,c6⟩,c7⟩:=ah) | skip);have hq:Bl f Q:=(by with_reducible (first | exact hb | exact Qw hb | exact Qw (Qw hb) | exact Qb β1 hb | exact Qb (Qe β1) hb | exact Qb (Qc (Qe (Qd _))) hb | exact Qb (Qe (Qc (Qe (Qd _)))) hb | exact Qb (Qe (Qe β1)) hb | exact Qb (Qc (Qe (Qe (Qd _)))) hb));have cx:=Hd hq;have el:=Bt cl;have en:=Bt co;have eo:=Bt cm;have ep:=hq.size;clear hb hq))
       all_goals
        go_wp2;go_meet
        case rel =>
         refine ⟨_,rfl, ?_, ?_, ?_⟩
         ·first | (simp [M1,go_sem];done) | (simp [M1,go_sem, *];done)
         ·with_reducible repeat' (first | exact cx.out | refine Qk ?_ ?_ | refine Qc ?_ | refine Qe ?_)
          all_goals (first | omega | (dsimp only;omega) | (simp;done))
         ·first | exact Nr _ | omega | (simp;omega)
      case rest =>
       obtain ⟨g10,rfl,d6,ap,ca⟩:=hcut;have P:=Hd (HM.out.kept (Qb d.out ap));have ao:=Hd (HR.out.kept (Qb d.out ap));have dm:=Qa ap x4;obtain ⟨g0,g1,g2,g3,g4,g5⟩:=d6;have eh:=Bt g0;have ei:=Bt dm;obtain ⟨⟨v0,v1,v2,v3,v4,v5⟩,b0,b1,b2,b3,b4,b5⟩:=P.out.1 j hj;have ej:=Bt v0;have du:w.heap.size+1≠T:=γ;have dd:w.heap.size+1≠g10:=γ;have de:T≠w.heap.size+1:=γ;have cp:g10≠w.heap.size+1:=γ;clear d CB bm ap HM HR p0 p1 p2 x0 x1 x2 x3 x4 y0 y1 y2 y3 y4 y5 c0 c1 c2 c3 c4 zp dt ds zg dq zW dn dp ca zB
       have bn:Hid (∀ H (h:H<J.length),H=m→J[H]=((q0,q1,q2,q3),(j:Int))):=fun H h e=>by
        subst e;exact HQ.out.symm
       by_cases hjm:j∈R ++ Y
       ·obtain ⟨a0,a1,a2,a3,a4,a5,O⟩:∃ a0 a1 a2 a3 a4 a5,K j=(a0,a1,a2,a3,a4,a5):=⟨_,_,_,_,_,_,rfl⟩;rw [O] at v0 v1 v2 v3 v4 v5;dsimp only at v0 v1 v2 v3 v4 v5
        have hz:sameM a0 a1 a2 a3 a4 a5 0 0 0 0 0 0=false:=by
         cases hc:sameM a0 a1 a2 a3 a4 a5 0 0 0 0 0 0 with
         | false=>rfl
         | true =>
          exfalso
          simp only [sameM,decide_eq_true_eq] at hc;obtain ⟨rfl,rfl,rfl,rfl,rfl,rfl⟩:=hc;have h9:=(a.out.1.2.2.2.1 j hjm).2.1;rw [O] at h9;exact absurd h9 τ
        by_cases heq:(a0,a1,a2,a3,a4,a5)=(f0,f1,f2,f3,f4,V)
        ·have dg:sameM a0 a1 a2 a3 a4 a5 f0 f1 f2 f3 f4 V=true:=by
          simp only [Prod.mk.injEq] at heq;simp only [sameM,decide_eq_true_eq];exact heq
         have cw:Hid (j∈R ++ Y∧K j=farM kd (q0,q1,q2,q3) (K i)):=⟨hjm,by rw [O,heq];exact a6.out.symm⟩;clear heq O;go_wp2;go_quiet (fail)
         go_wp2;go_roundg (J.length - (m+1))
         case measure=>omega
         case rel =>
          refine ⟨m+1,Y,K,γ,rfl,σ,a.out.1,a.out.2.1,a.out.2.2.1,fun H h' au j' Z=>?_,P.out.kept (Uj (Qd _)),ao.out.kept (Uj (Qd _))⟩;by_cases em:H=m
          ·rw [bn.out H h' em] at Z ⊢;simp only at Z;have:j'=j:=γ;subst this;exact cw.out
          ·exact a.out.2.2.2 H h' γ j' Z
        ·have dg:sameM a0 a1 a2 a3 a4 a5 f0 f1 f2 f3 f4 V=false:=by
          simp only [Prod.mk.injEq] at heq;simp only [sameM,decide_eq_false_iff_not];exact heq
         have cz:Hid (¬ ∃ N,Cons kd L N):=a.out.1.tear (i:=i) (j:=j) (List.mem_append_left _ ba.out) hjm (fun e=>aa.out.1 e.symm) (e:=(q0,q1,q2,q3)) (fun _=>aa.out.2.1) (fun _=>aa.out.2.2) (by rw [a6.out,O];exact heq);clear heq O;go_wp2;go_quiet (fail)
         go_wp2;exact bodyPost_ret (v:=.tuple #[SN,I 8]) (by simp [results,Tryz.results143,go_sem]) rfl ⟨Uj P.out.2.2.1,Or.inr ⟨cz.out,rfl⟩⟩
       ·have O:K j=noM:=a.out.2.1 j hjm;rw [O] at v0 v1 v2 v3 v4 v5;simp only [noM] at v0 v1 v2 v3 v4 v5;have hz:sameM 0 0 0 0 0 0 0 0 0 0 0 0=true:=τ
        have HF:Hid (MI kd L (R ++ (Y ++ [j])) (fun q=>if q=j then (f0,f1,f2,f3,f4,V) else K q)):=by
         have h9:=a.out.1.found hL ae.out.2.2 (i:=i) (j:=j) (List.mem_append_left _ ba.out) hj hjm (e:=(q0,q1,q2,q3)) (fun _=>aa.out.2.1) aa.out.2.2;rw [a6.out,List.append_assoc] at h9;exact h9
        have aw:(R ++ Y).length+1≤1000:=by
         have:=a.out.1.len;omega
        have d8:=P.out.2.2.2.2;clear O;go_wp2_with (at_builtin;refine wpList_append_own _ rfl (.tmp 57) (.tmp 60) 23 rfl (w.heap.size+1+1) 3 i3 (I 0) 1 8 Tryz.underlying23 HI.out.1 HI.out.2.1 HI.out.2.2.1 HI.out.2.2.2 rfl τ vC (R ++ Y).length (rowN (R ++ Y)) rfl ?own ⟨wc.heap.size,0,none⟩ 1 1 [I (j:Int)] rfl rfl ?c1 ?c2 ?b1 ?b2 ?b3 ?grow)
        case own =>
         try rw [← List.length_append]
         exact (P.out.2.1.kept (Jw wc (w.heap.size+1) j (f0,f1,f2,f3,f4,V)) (by
          cases hu:vC.ownBlock with
          | none=>exact Or.inl rfl
          | some q =>
           refine Or.inr (fun e1=>?_);have:=(P.out.2.1.lt q hu).1;simp at e1;omega)).alloc _
        case c1=>exact Xb _ ζ
        case c2=>exact Jx _
        case b1 =>
         unfold maxLen;first | omega | (rw [List.length_append] at aw;omega)
        case b2=>first | omega | (rw [List.length_append] at aw;omega)
        case b3 =>
         simp;omega
        case grow =>
         intro v' w3 G X _;rw [← List.length_append] at G
         have cv:Hid (PlM w w3 l L.length y o x (fun q=>if q=j then (f0,f1,f2,f3,f4,V) else K q) (R ++ (Y ++ [j])) v'):=by
          have:=P.out.more (m:=(f0,f1,f2,f3,f4,V)) hj β1 X G;rwa [List.append_assoc] at this
         have cy:Hid (JW w3 (w.heap.size+1+1) (Az jb) J):=by
          have h0:=ao.out.grown (Jw wc (w.heap.size+1) j (f0,f1,f2,f3,f4,V)) (fun g' d9 e1=>by
           have h2:=(ao.out.2 g' e1).1;simp at d9;omega)
          have h1:JW w3 (w.heap.size+1+1) (Az jb) J:=(h0.kept β1).grown X (ao.out.not_row P.out.2.1);exact h1
         clear G X;go_wp2;go_roundg (J.length - (m+1))
         case measure=>omega
         case rel =>
          have ax:∀ q∈R ++ Y,q∈R ++ (Y ++ [j]):=fun q hq=>by
           rw [← List.append_assoc];exact List.mem_append_left _ hq
          have da:i≠j:=fun e=>aa.out.1 e.symm;refine ⟨m+1,Y ++ [j],(fun q=>if q=j then (f0,f1,f2,f3,f4,V) else K q),γ,rfl,σ,HF.out,fun q hq=>?_,fun q hq=>?_,fun H h' au j' Z=>?_,cv.out,cy.out⟩
          ·have h8:q ∉ R ++ Y:=fun h=>hq (ax q h);have h7:q≠j:=fun e=>hq (by subst e;simp);simp only [if_neg h7];exact a.out.2.1 q h8
          ·have h7:q≠j:=fun e=>hjm (by subst e;exact List.mem_append_left _ hq);simp only [if_neg h7];exact a.out.2.2.1 q hq
          ·simp only [if_neg da];by_cases em:H=m
           ·rw [bn.out H h' em] at Z ⊢;simp only at Z;have:j'=j:=γ;subst this;simp only [if_true];exact ⟨ν,a6.out.symm⟩
           ·have h6:=a.out.2.2.2 H h' γ j' Z;have h7:j'≠j:=fun e=>hjm (by subst e;exact h6.1);simp only [if_neg h7];exact ⟨ax j' h6.1,h6.2⟩
     ·have im:¬ (m:Int)<(J.length:Int):=γ;obtain rfl:m=J.length:=γ;go_wp2;go_roundg (L.length - (n+1))
      case measure=>omega
      case rel =>
       have bg:∀ q∈R,q∈R ++ Y∧K q=M q:=fun q hq=>⟨List.mem_append_left _ hq,a.out.2.2.1 q hq⟩;refine ⟨n+1,R ++ Y,K,γ,γ,σ,a.out.1,a.out.2.1,⟨δ1,fun m hm ec=>?_⟩,HM.out⟩;by_cases em:m=n
       ·subst em;have e1:(R ++ Y)[m]=i:=by rw [List.getElem_append_left bh];exact ct.out.symm
        rw [e1];intro k hk eb j hj dc ar;have a7:(edg L[i] k,(j:Int))∈J:=by rw [HJ.out];exact Xw.2 ⟨k,hk,rfl,j,hj,rfl,fun e=>dc e.symm,ar⟩
        obtain ⟨H,au,e2⟩:=List.getElem_of_mem a7;have h9:=a.out.2.2.2 H au au j (by rw [e2]);rw [e2] at h9;exact h9
       ·have bf:m<R.length:=γ;have e1:(R ++ Y)[m]=R[m]:=List.getElem_append_left bf;rw [e1];exact (af.out.2.2.2 m bf γ).mono (Lm bf) bg
   ·have n1:¬ (n:Int)<(L.length:Int):=γ;obtain rfl:n=L.length:=γ;clear hI ac hE hM bi;go_wp2;refine bodyPost_ret (v:=.tuple #[.slice (Az (w.heap.size+1)) L.length L.length,I 0]) (by simp [results,Tryz.results143,go_sem]) rfl ⟨HM.out.2.2.1,Or.inl ⟨M, ?_,rfl,HM.out.1⟩⟩
    exact (MI.cons ae.out.2.1 ae.out.1 af.out.1 (fun i hi=>by
     obtain ⟨m,hm,e⟩:=List.getElem_of_mem hi;subst e;exact af.out.2.2.2 m hm γ)).2
theorem Place_yes (W H b off q n f:Nat) (u:Option Addr) (zs j:List Int) (w:World) (hr:Row w (Ad b off) zs) (t:1≤W∧W≤8) (x:1≤H∧H≤8) (hl:zs.length=W*H) (K:maskB zs=true) (J:Row w u j) (N:j.length=n*5) (B:n≤3518437208883) (hs:Steps w) (y:Joined (ty zs W H)) (G:∀ i,i<n→CrOk (ty zs W H) j i) :
  Cl 102 #[.agg #[I (W:Int),I (H:Int),.slice (Ad b off) zs.length q,.slice u n f]] w fun e w'=>PlaceTo (kdn j n) (ty zs W H) w w' e:=by
 have D:=Hd (fun (c:World) a=>lay_yes W H b off q n f u zs j c (hr.kept a) t x hl K (J.kept a) N B (hs.kept a) y G);have h:(ty zs W H).length≤300:=by have:=Vi zs W H t.2;omega
 have E:Hid (∀ (c:World) (k:Option Addr) (r l m:Nat),Bl w c→PA c k l (ty zs W H)→KL c m (kdn j n)→Cl 143 #[.agg #[.slice k (ty zs W H).length r,.map (some l),.map (some m)]] c fun e w'=>PlaceTo (kdn j n) (ty zs W H) c w' e):=fun c k r l m a hp A=>(placesOf_any c r l m k _ (kdn j n) (hs.kept a) hp A y h (Yf zs W H) (ty_bd t.2 x.2)).mono fun e w' ⟨h1,h2⟩=>⟨h1,h2.imp (fun ⟨M,c1,c2,c3⟩=>⟨M,_,c1,c2,c3⟩) id⟩;obtain ⟨L,z⟩:∃ L,L=ty zs W H:=⟨_,rfl⟩;rw [← z] at D E h;rw [← z];clear hr J hl K t x N hs y G z;go_enter Tryz.func102,Tryz.ntmps102
 go_wp2_with (first
  | (go_at_call 20;refine (D.out _ Δ).mono ?_;rintro e Q ⟨k,r,base,l,m,rfl,d⟩;have F:=Hd (Qb β1 d.2.2.2.2);have p:=H2 d.pa d.kl;clear d)
  | (go_at_call 143;refine (E.out _ k r l m (by with_reducible exact Qc F.out) (p.out.1.kept Δ) (p.out.2.kept Δ)).mono ?_;rintro e R ⟨s,h3⟩;have o:=Hd (Qb (Qc F.out) s);have O:=Hd h3;clear s h3;rcases O.out with ⟨M,g,P,rfl,hr⟩ | ⟨C,rfl⟩))
 ·exact bodyPost_ret (v:=.tuple #[.slice (Az g) L.length L.length,I 0]) (by simp [results,Tryz.results102,go_sem]) rfl ⟨o.out,Or.inl ⟨M,g,P,rfl,hr⟩⟩
 ·exact bodyPost_ret (v:=.tuple #[SN,I 8]) (by simp [results,Tryz.results102,go_sem]) rfl ⟨o.out,Or.inr ⟨C,rfl⟩⟩
end Go.Proofs.YtbjmnlefkbhbdaaGreatDoor
