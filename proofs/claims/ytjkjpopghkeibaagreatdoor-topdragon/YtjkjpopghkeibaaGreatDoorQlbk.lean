/- A part of it. -/
import Derived.Test.YtjkjpopghkeibaaGreatDoorQlbj
set_option maxRecDepth 100000
set_option maxHeartbeats 40000000
namespace Go.Proofs.YtjkjpopghkeibaaGreatDoor
variable {d:Array Nat} {a b:Nat}
section
open Go.Sort hiding Below
theorem Yk {c:Array Nat} {N:Nat} (hb:b≤d.size) (h:PermIn a b d c) (e:∀ k,k<d.size→d[k]! < N):∀ k,k<c.size→c[k]! < N:=fun k f=>by
 by_cases q:k<a∨b≤k
 ·rw [h.2.1 k q];exact e k (by rw [← h.1];exact f)
 ·exact permIn_all d c a b (fun x=>x<N) hb h (fun i _ h2=>e i γ) k γ γ
theorem rd_lts {lt:Nat→Nat→Bool} {limit N:Nat} {wb wp:Bool} (h:SWO lt) (e:a<b) (hb:b≤d.size) (j:Sort.Below lt a b d) (l:∀ k,k<d.size→d[k]! < N) :
  (∀ k,k<(rd lt d a b limit wb wp).d1.size→(rd lt d a b limit wb wp).d1[k]! < N)∧(∀ k,k<(rd lt d a b limit wb wp).d2.size→(rd lt d a b limit wb wp).d2[k]! < N)∧(∀ k,k<(rd lt d a b limit wb wp).pi.1.size→(rd lt d a b limit wb wp).pi.1[k]! < N):=by
 obtain ⟨f,p,_,g,i,_,_,_⟩:=rd_facts (limit:=limit) (wb:=wb) (wp:=wp) h partialInsertionSort_holds reverseRange_holds e hb j;have m:PermIn a b d (rd lt d a b limit wb wp).d1:=step_break d (Nat.le_of_lt e) hb ((!wb)=true);have l1:=Yk hb m l;have n:PermIn a b (rd lt d a b limit wb wp).d1 (rd lt d a b limit wb wp).d2:=step_reverse reverseRange_holds (rd lt d a b limit wb wp).d1 (Nat.le_of_lt e) (by rw [f];exact hb) ((rd lt d a b limit wb wp).c.2=.decreasing);have l2:=Yk (by rw [f];exact hb) n l1;have o:PermIn a b (rd lt d a b limit wb wp).d2 (rd lt d a b limit wb wp).pi.1:=(step_partial partialInsertionSort_holds h (rd lt d a b limit wb wp).d2 e (by rw [g];exact hb) i ((wb && wp && decide ((rd lt d a b limit wb wp).hint=.increasing))=true)).1;exact ⟨l1,l2,Yk (by rw [g];exact hb) o l2⟩
theorem choose_far {lt:Nat→Nat→Bool} (h:¬ b - a≤12):a<(choosePivot lt d a b).1∧(choosePivot lt d a b).1<b - 1:=by
 unfold choosePivot;simp only;rw [if_pos (show b - a ≥ 8 by omega)];by_cases q:b - a ≥ 50
 ·rw [if_pos q];have e:=medianAdjacent_mem lt d (a+(b - a) / 4*1) 0;have f:=medianAdjacent_mem lt d (a+(b - a) / 4*2) (medianAdjacent lt d (a+(b - a) / 4*1) 0).2;have g:=medianAdjacent_mem lt d (a+(b - a) / 4*3) (medianAdjacent lt d (a+(b - a) / 4*2) (medianAdjacent lt d (a+(b - a) / 4*1) 0).2).2;have c:=median_mem lt d (medianAdjacent lt d (a+(b - a) / 4*1) 0).1 (medianAdjacent lt d (a+(b - a) / 4*2) (medianAdjacent lt d (a+(b - a) / 4*1) 0).2).1 (medianAdjacent lt d (a+(b - a) / 4*3) (medianAdjacent lt d (a+(b - a) / 4*2) (medianAdjacent lt d (a+(b - a) / 4*1) 0).2).2).1 (medianAdjacent lt d (a+(b - a) / 4*3) (medianAdjacent lt d (a+(b - a) / 4*2) (medianAdjacent lt d (a+(b - a) / 4*1) 0).2).2).2;omega
 ·rw [if_neg q];have c:=median_mem lt d (a+(b - a) / 4*1) (a+(b - a) / 4*2) (a+(b - a) / 4*3) 0;omega
theorem rd_pivot_lt {lt:Nat→Nat→Bool} {limit:Nat} {wb wp:Bool} (h:¬ b - a≤12):a<(rd lt d a b limit wb wp).pivot:=by
 have e:=choose_far (lt:=lt) (d:=(rd lt d a b limit wb wp).d1) h;rw [← rd_c] at e;by_cases q:(rd lt d a b limit wb wp).c.2=.decreasing
 ·rw [(rd_dec q).2.1];omega
 ·rw [(rd_not q).2.1];omega
theorem swo_key (f:Nat→Int):SWO (fun x y=>decide (f x<f y)):=by
 constructor <;> intros <;> simp_all <;> omega
end
open Go.RowKit
theorem hintN_two {h:Sort.Hint} (e:hintN h=2):h=.decreasing:=by cases h <;> simp [hintN] at e ⊢
theorem pdq_any (w:World) (g o n l N:Nat) (K:Value) (j:Nat→Nat→Int) (hc:CmpF w g N K j) (hO:Sort.SWO (ltF j)) (hn:n≤300) :
  ∀ (m a b limit:Nat) (d:Array Nat) (w1:World),b - a<m→d.size=n→SrtW w w1 g o d→a≤b→b≤n→limit≤300→(∀ k,k<d.size→d[k]! < N)→Sort.Below (ltF j) a b d →
  Cl 120 #[.slice (Ad g o) n l,I (a:Int),I (b:Int),I (limit:Int),.func (.func 67) #[K] #[]] w1 fun e w'=>e=.returned (.tuple #[])∧SrtW w w' g o (Sort.pdq (ltF j) d a b limit true true):=by
 have HC:=Hd hc;have HO:=Hd hO;clear hc hO;intro m;induction m with
 | zero=>intro _ _ _ _ _ h;omega
 | succ m ih =>
  intro a b limit d w1 hm hd hw ca cc bn hN an;obtain ⟨T,hT⟩:∃ T,T=Sort.pdq (ltF j) d a b limit true true:=⟨_,rfl⟩;rw [← hT];have HW:=H5 hw an hN hd hT.symm;clear hw an hN hd hT;go_enter Tryz.func120,Tryz.ntmps120;go_wp2;go_loopg [1,2,3,10,11] (b - a) (fun kx s1 s2 s3 cd ce wx=>∃ (A B t:Nat) (wb wp:Bool) (F:Array Nat),s1=I (A:Int)∧s2=I (B:Int)∧s3=I (t:Int)∧cd=.bool wb∧ce=.bool wp∧A≤B∧B≤n∧B - A≤kx∧kx≤b - a∧t≤300∧SrtW w wx g o F∧Sort.Below (ltF j) A B F∧(∀ k,k<F.size→F[k]! < N)∧F.size=n∧Sort.pdq (ltF j) F A B t wb wp=T)
  case atStart=>exact ⟨a,b,limit,true,true,d,rfl,rfl,rfl,rfl,rfl,ca,cc,Nr _,Nr _,bn,HW.out⟩
  case round =>
   clear HW;obtain ⟨A,B,t,wb,wp,F,rfl,rfl,rfl,rfl,rfl,bc,a7,cv,cu,cw,hS,be,bf,am,bj⟩:=hrel;have HS:=Hd hS;have HA:=Hd bj;have HD:=Hd bf;have b9:=Hd be;clear hS bj bf be;by_cases h12:B - A≤12
   ·have bb:(B:Int) - (A:Int)≤12:=γ;have CI:=Hd (insertion_any w g o n l A B N K j HC.out F am HD.out bc a7 hn wr HS.out);go_wp2_with (go_at_call 167;refine CI.out.mono ?_;rintro e w2 ⟨rfl,G⟩;have U:=Hd G;clear G)
    (try simp only [Exit.inBlock,Exit.then])
    exact bodyPost_ret (results_none rfl _ _ _) rfl ⟨rfl,by rw [← HA.out,Sort.pdq_small h12];exact U.out⟩
   ·have bb:¬ (B:Int) - (A:Int)≤12:=γ;by_cases hl0:t=0
    ·have CH:Hid (Cl 168 #[.slice (Ad g o) n l,I (A:Int),I (B:Int),.func (.func 67) #[K] #[]] wr fun e w'=>e=.returned (.tuple #[])∧SrtW w w' g o (Sort.heapSort (ltF j) F A B)):=heap_any w g o n l A B N K j HC.out F am HD.out γ a7 hn wr HS.out
     have HE:Hid (T=Sort.heapSort (ltF j) F A B):=by
      have:T=Sort.heapSort (ltF j) F A B:=by rw [← HA.out,Sort.pdq_heap h12 hl0]
      exact this
     subst hl0;go_wp2_with (go_at_call 168;refine CH.out.mono ?_;rintro e w2 ⟨rfl,G⟩;have U:=Hd G;clear G)
     (try simp only [Exit.inBlock,Exit.then])
     exact bodyPost_ret (results_none rfl _ _ _) rfl ⟨rfl,by rw [HE.out];exact U.out⟩
    ·have bm:¬ (t:Int)=0:=γ;have ci:((t:Int) == 0)=false:=by simpa using bm
     obtain ⟨s1,B1,ak,s2,B2,b5,s3,B3⟩:=Sort.rd_facts (lt:=(ltF j)) (limit:=t) (wb:=wb) (wp:=wp) HO.out Sort.partialInsertionSort_holds Sort.reverseRange_holds (show A<B by omega) (show B≤F.size by omega) b9.out;have ac:=rd_lts (limit:=t) (wb:=wb) (wp:=wp) HO.out (show A<B by omega) (show B≤F.size by omega) b9.out HD.out;have ae:=rd_pivot_lt (lt:=(ltF j)) (d:=F) (limit:=t) (wb:=wb) (wp:=wp) h12;have bo:(Sort.rd (ltF j) F A B t wb wp).lim≤t:=Sort.rd_lim_le;obtain ⟨r,hr⟩:∃ r,r=(Sort.rd (ltF j) F A B t wb wp):=⟨_,rfl⟩;have u:=Hd hr;rw [← hr] at s1 B1 ak s2 B2 b5 s3 B3 ac ae bo;rw [am] at s1 s2 s3;have HL:=Hd ac;have ah:=Hd B3;have z:=ae;have C:=b5.2;have cp:=ak.1;have ct:=ak.2;clear ac B1 B2 B3 ae b5 hr ak;go_upto_if 39 with fail
     go_cut [3] (fun s3 wx=>s3=I (r.lim:Int)∧SrtW w wx g o r.d1)
     case first =>
      cases wb
      ·have CB:Hid (Cl 169 #[.slice (Ad g o) n l,I (A:Int),I (B:Int),.func (.func 67) #[K] #[]] wr fun e w'=>e=.returned (.tuple #[])∧SrtW w w' g o r.d1):=by
        have h:=break_any w g o n l A B N K F am HD.out bc a7 hn wr HS.out;rw [u.out];exact h
       have ai:Hid (r.lim=t - 1):=by rw [u.out];rfl
       go_wp2_with (go_at_call 169;refine CB.out.mono ?_;rintro e w2 ⟨rfl,G⟩;have U:=Hd G;clear G)
       go_meet
       case rel=>exact ⟨by rw [ai.out];congr 1;omega,U.out⟩
      ·have ai:Hid (r.lim=t∧r.d1=F):=by rw [u.out];exact ⟨rfl,rfl⟩
       go_wp2;go_meet
       case rel=>exact ⟨by rw [ai.out.1],by rw [ai.out.2];exact HS.out⟩
     case rest =>
      obtain ⟨rfl,bg⟩:=hcut
      have CV:Hid (Cl 170 #[.slice (Ad g o) n l,I (A:Int),I (B:Int),.func (.func 67) #[K] #[]] wc fun e w'=>e=.returned (.tuple #[I (r.c.1:Int),I (hintN r.c.2:Int)])∧SrtW w w' g o r.d1):=by
       have h:=choose_any w g o n l A B N K j HC.out r.d1 s1 HL.out.1 γ a7 hn wc bg;have e:r.c=Sort.choosePivot (ltF j) r.d1 A B:=by rw [u.out];rfl
       rw [← e] at h;exact h
      clear bg HS;go_upto_if 56 with (go_at_call 170;refine CV.out.mono ?_;rintro e w2 ⟨rfl,G⟩;have U:=Hd G;clear G)
      go_cut [13,14] (fun cg ag wx=>cg=I (r.pivot:Int)∧ag=I (hintN r.hint:Int)∧SrtW w wx g o r.d2)
      case first =>
       by_cases hh:r.c.2=.decreasing
       ·have ax:hintN r.c.2=2:=by rw [hh];rfl
        have ab:(hintN r.c.2:Int)=2:=γ;have bk:((hintN r.c.2:Int) == 2)=true:=by simpa using ab
        have HE:Hid (r.d2=Sort.reverseRange r.d1 A B∧r.pivot=(B - 1) - (r.c.1 - A)∧r.hint=.increasing):=by
         have h:=Sort.rd_dec (lt:=(ltF j)) (d:=F) (a:=A) (b:=B) (limit:=t) (wb:=wb) (wp:=wp) (by rw [← u.out];exact hh);rw [← u.out] at h;exact h
        have bt:Hid (∀ W:World,SrtW w W g o r.d1→Cl 171 #[.slice (Ad g o) n l,I (A:Int),I (B:Int),.func (.func 67) #[K] #[]] W fun e w'=>e=.returned (.tuple #[])∧SrtW w w' g o r.d2):=fun W Y=>by
         rw [HE.out.1];exact reverse_any w g o n l A B N _ r.d1 s1 HL.out.1 γ a7 hn W Y
        clear hh;go_wp2_with (go_at_call 171;refine (bt.out _ U.out).mono ?_;rintro e w3 ⟨rfl,bq⟩;have bv:=Hd bq;clear bq)
        go_meet
        case rel=>exact ⟨by rw [HE.out.2.1];congr 1;omega,by rw [HE.out.2.2];rfl,bv.out⟩
       ·have ax:¬ hintN r.c.2=2:=fun h=>hh (hintN_two h);have ab:¬ (hintN r.c.2:Int)=2:=γ;have bk:((hintN r.c.2:Int) == 2)=false:=by simpa using ab
        have HE:Hid (r.d2=r.d1∧r.pivot=r.c.1∧r.hint=r.c.2):=by
         have h:=Sort.rd_not (lt:=(ltF j)) (d:=F) (a:=A) (b:=B) (limit:=t) (wb:=wb) (wp:=wp) (by rw [← u.out];exact hh);rw [← u.out] at h;exact h
        clear hh;go_wp2;go_meet
        case rel=>exact ⟨by rw [HE.out.2.1],by rw [HE.out.2.2],by rw [HE.out.1];exact U.out⟩
      case rest =>
       obtain ⟨rfl,rfl,bh⟩:=hcut;have ao:=Hd bh;clear bh CV;obtain ⟨tb,bp⟩:∃ tb,tb=(wb && wp && decide (r.hint=.increasing)):=⟨_,rfl⟩;have aa:=Hd bp;clear bp;go_upto_region 15 with fail
       go_cut [14,75] (fun ag ch wx=>ag=I (hintN r.hint:Int)∧ch=.bool tb∧wx=wc)
       case first =>
        obtain ⟨hi,az⟩:∃ hi,hi=r.hint:=⟨_,rfl⟩;have HH:=Hd az;rw [← az] at aa ⊢;clear az
        cases wb <;> cases wp <;> cases hi <;>
         (go_wp2
          go_meet
          case rel=>exact ⟨by rw [← HH.out],by rw [aa.out];rfl,rfl⟩)
       case rest =>
        obtain ⟨rfl,rfl,rfl⟩:=hcut;go_upto_if 75 with fail
        go_cut [14] (fun ag wx=>ag=I (hintN r.hint:Int)∧r.pi.2=false∧SrtW w wx g o r.pi.1)
        case first =>
         cases tb
         ·have HE:Hid (r.pi=(r.d2,false)):=by
           have h:=Sort.rd_pi_no (lt:=(ltF j)) (d:=F) (a:=A) (b:=B) (limit:=t) (wb:=wb) (wp:=wp) (by rw [← u.out];exact aa.out.symm);rw [← u.out] at h;exact h
          go_wp2;go_meet
          case rel=>exact ⟨rfl,by rw [HE.out],by rw [HE.out];exact ao.out⟩
         ·have HE:Hid (r.pi=Sort.partialInsertionSort (ltF j) r.d2 A B):=by
           have h:=Sort.rd_pi_yes (lt:=(ltF j)) (d:=F) (a:=A) (b:=B) (limit:=t) (wb:=wb) (wp:=wp) (by rw [← u.out];exact aa.out.symm);rw [← u.out] at h;exact h
          obtain ⟨pz,b6⟩:∃ pz,pz=r.pi.2:=⟨_,rfl⟩;have ba:=Hd b6
          have CP:Hid (Cl 172 #[.slice (Ad g o) n l,I (A:Int),I (B:Int),.func (.func 67) #[K] #[]] wc fun e w'=>e=.returned (.bool pz)∧SrtW w w' g o r.pi.1):=by
           have h:=pins_any w g o n l A B N K j HC.out r.d2 s2 HL.out.2.1 γ a7 hn wc ao.out;rw [← HE.out,← b6] at h;exact h
          clear b6
          cases pz
          ·go_wp2_with (go_at_call 172;refine CP.out.mono ?_;rintro e w4 ⟨rfl,af⟩;have aq:=Hd af;clear af)
           go_meet
           case rel=>exact ⟨rfl,ba.out.symm,aq.out⟩
          ·go_wp2_with (go_at_call 172;refine CP.out.mono ?_;rintro e w4 ⟨rfl,af⟩;have aq:=Hd af;clear af)
           (try simp only [Exit.inBlock,Exit.then])
           exact bodyPost_ret (results_none rfl _ _ _) rfl ⟨rfl,by rw [← HA.out,Sort.pdq_done h12 hl0 (by rw [← u.out];exact ba.out.symm),← u.out];exact aq.out⟩
        case rest =>
         obtain ⟨rfl,ad,bi⟩:=hcut;have L:=Hd bi;clear bi ao aa;rcases Nat.eq_zero_or_pos A with a8 | a8
         ·have aw:¬ (0:Int)<(A:Int):=γ;have bw:decide ((0:Int)<(A:Int))=false:=decide_eq_false aw;have bz:decide (0<A)=false:=decide_eq_false γ;have co:¬ 0<A:=γ;have V:(decide (A > 0) && !(ltF j) r.pi.1[A - 1]! r.pi.1[r.pivot]!)=false:=by simp [a8]
          have cj:=Hd a8;clear a8;go_wp2;obtain ⟨kc,kn⟩:=kcn wc;refine wk ?_;repeat (go_big_quiet_step (fail))
          refine kq1 (fun wq hq=>?_);clear kc kn;have HP:=Hd (L.out.kept hq);clear hq L;obtain ⟨f,ap,d4,R⟩:∃ f ap d4,Sort.partition (ltF j) r.pi.1 A B r.pivot=(f,ap,d4):=⟨_,_,_,rfl⟩;obtain ⟨r1,r2,r3,r4,r5,r6,r7⟩:=Sort.round_part HO.out (Sort.partition_holds (ltF j)) (Nat.le_of_lt z) C (show B≤r.pi.1.size by omega) ah.out R;have M:=(Sort.partition_holds (ltF j) HO.out r.pi.1 A B r.pivot (Nat.le_of_lt z) C γ).2.2.1;rw [R] at M;have Z:=Yk γ M HL.out.2.2
          have CT:Hid (∀ W:World,SrtW w W g o r.pi.1→Cl 174 #[.slice (Ad g o) n l,I (A:Int),I (B:Int),I (r.pivot:Int),.func (.func 67) #[K] #[]] W fun e w'=>e=.returned (.tuple #[I (f:Int),.bool ap])∧SrtW w w' g o d4):=fun W Y=>by
           have:=part_any w g o n l A B r.pivot N K j HC.out r.pi.1 γ HL.out.2.2 z C γ hn W Y;rw [R] at this;exact this
          have HX:=Hd R;have Q:d4.size=n:=by rw [r3];omega
          have v:=H3 r4 r5 Z;have ar:Hid (∀ E,Sort.PermIn A f d4 E→Sort.SortedIn (ltF j) A f E→Sort.Below (ltF j) (f+1) B E):=fun E h1 h2=>(r6 E h1 h2).1;have au:Hid (∀ E,Sort.PermIn (f+1) B d4 E→Sort.SortedIn (ltF j) (f+1) B E→Sort.Below (ltF j) A f E):=fun E h1 h2=>(r7 E h1 h2).1;clear R r3 r4 r5 r6 r7 M Z;by_cases h4:f - A<B - f
          ·have av:(f:Int) - (A:Int)<(B:Int) - (f:Int):=γ;obtain ⟨J,sL⟩:=Sort.pdq_sorts (ltF j) HO.out d4 A f r.lim true true γ γ v.out.1;obtain ⟨d5,s⟩:∃ d5,d5=Sort.pdq (ltF j) d4 A f r.lim true true:=⟨_,rfl⟩;rw [← s] at J sL
           have a2:Hid (∀ W:World,SrtW w W g o d4→Cl 120 #[.slice (Ad g o) n l,I (A:Int),I (f:Int),I (r.lim:Int),.func (.func 67) #[K] #[]] W fun e w'=>e=.returned (.tuple #[])∧SrtW w w' g o d5):=fun W Y=>by
            rw [s];exact ih A f r.lim d4 W γ Q Y γ γ γ v.out.2.2 v.out.1
           have P:Hid (Sort.Below (ltF j) (f+1) B d5∧(∀ k,k<d5.size→d5[k]! < N)∧d5.size=n∧Sort.pdq (ltF j) d5 (f+1) B r.lim (decide (f - A ≥ (B - A) / 8)) ap=T):=⟨ar.out _ J sL,Yk γ J v.out.2.2,J.1.trans Q,by
            rw [← HA.out,Sort.pdq_left h12 hl0 (by rw [← u.out];exact ad) (by rw [← u.out];exact V) (by rw [← u.out,HX.out];exact ⟨r1,r2⟩) (by rw [← u.out,HX.out];exact h4),← u.out,HX.out,s]⟩
           clear J sL s ih;go_wp2_with (first | (go_at_call 174;refine (CT.out _ HP.out).mono ?_;rintro e w7 ⟨rfl,D⟩;have O:=Hd D;clear D) | (go_at_call 120;refine (a2.out _ O.out).mono ?_;rintro e w8 ⟨rfl,H⟩;have a6:=Hd H;clear H))
           go_roundg (B - (f+1))
           case measure=>omega
           case rel=>exact ⟨f+1,B,r.lim,decide (f - A ≥ (B - A) / 8),ap,d5,δ0,rfl,rfl,congrArg Value.bool (eighth γ γ),rfl,γ,γ,Nr _,γ,γ,a6.out,P.out⟩
          ·have av:¬ (f:Int) - (A:Int)<(B:Int) - (f:Int):=γ;obtain ⟨J,sL⟩:=Sort.pdq_sorts (ltF j) HO.out d4 (f+1) B r.lim true true γ γ v.out.2.1;obtain ⟨d5,s⟩:∃ d5,d5=Sort.pdq (ltF j) d4 (f+1) B r.lim true true:=⟨_,rfl⟩;rw [← s] at J sL
           have a2:Hid (∀ W:World,SrtW w W g o d4→Cl 120 #[.slice (Ad g o) n l,I ((f:Int)+1),I (B:Int),I (r.lim:Int),.func (.func 67) #[K] #[]] W fun e w'=>e=.returned (.tuple #[])∧SrtW w w' g o d5):=fun W Y=>by
            rw [s];have:=ih (f+1) B r.lim d4 W γ Q Y γ γ γ v.out.2.2 v.out.2.1;rw [show ((f+1:Nat):Int)=(f:Int)+1 by omega] at this;exact this
           have P:Hid (Sort.Below (ltF j) A f d5∧(∀ k,k<d5.size→d5[k]! < N)∧d5.size=n∧Sort.pdq (ltF j) d5 A f r.lim (decide (B - f ≥ (B - A) / 8)) ap=T):=⟨au.out _ J sL,Yk γ J v.out.2.2,J.1.trans Q,by
            rw [← HA.out,Sort.pdq_right h12 hl0 (by rw [← u.out];exact ad) (by rw [← u.out];exact V) (by rw [← u.out,HX.out];exact ⟨r1,r2⟩) (by rw [← u.out,HX.out];exact h4),← u.out,HX.out,s]⟩
           clear J sL s ih;go_wp2_with (first | (go_at_call 174;refine (CT.out _ HP.out).mono ?_;rintro e w7 ⟨rfl,D⟩;have O:=Hd D;clear D) | (go_at_call 120;refine (a2.out _ O.out).mono ?_;rintro e w8 ⟨rfl,H⟩;have a6:=Hd H;clear H))
           go_roundg (f - A)
           case measure=>omega
           case rel=>exact ⟨A,f,r.lim,decide (B - f ≥ (B - A) / 8),ap,d5,rfl,rfl,rfl,congrArg Value.bool (eighth γ γ),rfl,γ,γ,Nr _,γ,γ,a6.out,P.out⟩
         ·obtain ⟨p,hp⟩:∃ p,A=p+1:=⟨A - 1,γ⟩;have e7:A - 1=p:=γ;obtain ⟨rk,fk⟩:=L.out.row p γ;obtain ⟨ra,fa⟩:=L.out.row r.pivot γ;have lk:=HL.out.2.2 p γ;have la:=HL.out.2.2 r.pivot γ;have zh:=L.out.lt;obtain ⟨x,b7⟩:∃ x,x=r.pi.1[p]!:=⟨_,rfl⟩;obtain ⟨y,b8⟩:∃ y,y=r.pi.1[r.pivot]!:=⟨_,rfl⟩;rw [← b7] at rk lk;rw [← b8] at ra la;have CB:Hid (∀ W:World,Bl wc W→Rt 67 #[K,I (x:Int),I (y:Int)] W (I (j x y))):=fun W Y=>HC.out W (L.out.kept Y).gr x y lk la;obtain ⟨c,ay⟩:∃ c,c=j x y:=⟨_,rfl⟩
          have aj:Hid ((ltF j) r.pi.1[A - 1]! r.pi.1[r.pivot]! = decide (c<0)):=by
           have:(ltF j) r.pi.1[A - 1]! r.pi.1[r.pivot]! = decide (c<0):=by rw [e7,ay,b7,b8];rfl
           exact this
          rw [← ay] at CB;have aw:(0:Int)<(A:Int):=γ;have bw:decide ((0:Int)<(A:Int))=true:=decide_eq_true aw;have bz:decide (0<A)=true:=decide_eq_true γ;have e8:(A:Int) - 1=(p:Int):=γ;have br:IntKind.i64.wrap ((A:Int) - 1)=(p:Int):=υ;have bs:IntKind.i64.wrap (p:Int)=(p:Int):=υ;have i1:(p:Int)<(n:Int):=γ;have i2:(r.pivot:Int)<(n:Int):=γ;have k1:(0:Int)≤(p:Int):=γ;have k2:(0:Int)≤(r.pivot:Int):=γ;have cm:=Hd hp;have bu:=Hd a8;clear b7 b8 ay lk la hp a8 e7;by_cases q:c<0
          ·have qb:decide (c<0)=true:=decide_eq_true q;have V:(decide (A > 0) && !(ltF j) r.pi.1[A - 1]! r.pi.1[r.pivot]!)=false:=by rw [aj.out,qb];simp
           go_wp2;obtain ⟨kc,kn⟩:=kcn wc;refine wk ?_;repeat (go_big_quiet_step ((go_at_call 67;exact Qf (CB.out _ (Kin.h _)))))
           refine kq1 (fun wq hq=>?_);clear kc kn;have HP:=Hd (L.out.kept hq);clear hq L rk fk ra fa CB aj q qb e8 br bs;obtain ⟨f,ap,d4,R⟩:∃ f ap d4,Sort.partition (ltF j) r.pi.1 A B r.pivot=(f,ap,d4):=⟨_,_,_,rfl⟩;obtain ⟨r1,r2,r3,r4,r5,r6,r7⟩:=Sort.round_part HO.out (Sort.partition_holds (ltF j)) (Nat.le_of_lt z) C (show B≤r.pi.1.size by omega) ah.out R;have M:=(Sort.partition_holds (ltF j) HO.out r.pi.1 A B r.pivot (Nat.le_of_lt z) C γ).2.2.1;rw [R] at M;have Z:=Yk γ M HL.out.2.2
           have CT:Hid (∀ W:World,SrtW w W g o r.pi.1→Cl 174 #[.slice (Ad g o) n l,I (A:Int),I (B:Int),I (r.pivot:Int),.func (.func 67) #[K] #[]] W fun e w'=>e=.returned (.tuple #[I (f:Int),.bool ap])∧SrtW w w' g o d4):=fun W Y=>by
            have:=part_any w g o n l A B r.pivot N K j HC.out r.pi.1 γ HL.out.2.2 z C γ hn W Y;rw [R] at this;exact this
           have HX:=Hd R;have Q:d4.size=n:=by rw [r3];omega
           have v:=H3 r4 r5 Z;have ar:Hid (∀ E,Sort.PermIn A f d4 E→Sort.SortedIn (ltF j) A f E→Sort.Below (ltF j) (f+1) B E):=fun E h1 h2=>(r6 E h1 h2).1;have au:Hid (∀ E,Sort.PermIn (f+1) B d4 E→Sort.SortedIn (ltF j) (f+1) B E→Sort.Below (ltF j) A f E):=fun E h1 h2=>(r7 E h1 h2).1;clear R r3 r4 r5 r6 r7 M Z;by_cases h4:f - A<B - f
           ·have av:(f:Int) - (A:Int)<(B:Int) - (f:Int):=γ;obtain ⟨J,sL⟩:=Sort.pdq_sorts (ltF j) HO.out d4 A f r.lim true true γ γ v.out.1;obtain ⟨d5,s⟩:∃ d5,d5=Sort.pdq (ltF j) d4 A f r.lim true true:=⟨_,rfl⟩;rw [← s] at J sL
            have a2:Hid (∀ W:World,SrtW w W g o d4→Cl 120 #[.slice (Ad g o) n l,I (A:Int),I (f:Int),I (r.lim:Int),.func (.func 67) #[K] #[]] W fun e w'=>e=.returned (.tuple #[])∧SrtW w w' g o d5):=fun W Y=>by
             rw [s];exact ih A f r.lim d4 W γ Q Y γ γ γ v.out.2.2 v.out.1
            have P:Hid (Sort.Below (ltF j) (f+1) B d5∧(∀ k,k<d5.size→d5[k]! < N)∧d5.size=n∧Sort.pdq (ltF j) d5 (f+1) B r.lim (decide (f - A ≥ (B - A) / 8)) ap=T):=⟨ar.out _ J sL,Yk γ J v.out.2.2,J.1.trans Q,by
             rw [← HA.out,Sort.pdq_left h12 hl0 (by rw [← u.out];exact ad) (by rw [← u.out];exact V) (by rw [← u.out,HX.out];exact ⟨r1,r2⟩) (by rw [← u.out,HX.out];exact h4),← u.out,HX.out,s]⟩
            clear J sL s ih;go_wp2_with (first | (go_at_call 174;refine (CT.out _ HP.out).mono ?_;rintro e w7 ⟨rfl,D⟩;have O:=Hd D;clear D) | (go_at_call 120;refine (a2.out _ O.out).mono ?_;rintro e w8 ⟨rfl,H⟩;have a6:=Hd H;clear H))
            go_roundg (B - (f+1))
            case measure=>omega
            case rel=>exact ⟨f+1,B,r.lim,decide (f - A ≥ (B - A) / 8),ap,d5,δ0,rfl,rfl,congrArg Value.bool (eighth γ γ),rfl,γ,γ,Nr _,γ,γ,a6.out,P.out⟩
           ·have av:¬ (f:Int) - (A:Int)<(B:Int) - (f:Int):=γ;obtain ⟨J,sL⟩:=Sort.pdq_sorts (ltF j) HO.out d4 (f+1) B r.lim true true γ γ v.out.2.1;obtain ⟨d5,s⟩:∃ d5,d5=Sort.pdq (ltF j) d4 (f+1) B r.lim true true:=⟨_,rfl⟩;rw [← s] at J sL
            have a2:Hid (∀ W:World,SrtW w W g o d4→Cl 120 #[.slice (Ad g o) n l,I ((f:Int)+1),I (B:Int),I (r.lim:Int),.func (.func 67) #[K] #[]] W fun e w'=>e=.returned (.tuple #[])∧SrtW w w' g o d5):=fun W Y=>by
             rw [s];have:=ih (f+1) B r.lim d4 W γ Q Y γ γ γ v.out.2.2 v.out.2.1;rw [show ((f+1:Nat):Int)=(f:Int)+1 by omega] at this;exact this
            have P:Hid (Sort.Below (ltF j) A f d5∧(∀ k,k<d5.size→d5[k]! < N)∧d5.size=n∧Sort.pdq (ltF j) d5 A f r.lim (decide (B - f ≥ (B - A) / 8)) ap=T):=⟨au.out _ J sL,Yk γ J v.out.2.2,J.1.trans Q,by
             rw [← HA.out,Sort.pdq_right h12 hl0 (by rw [← u.out];exact ad) (by rw [← u.out];exact V) (by rw [← u.out,HX.out];exact ⟨r1,r2⟩) (by rw [← u.out,HX.out];exact h4),← u.out,HX.out,s]⟩
            clear J sL s ih;go_wp2_with (first | (go_at_call 174;refine (CT.out _ HP.out).mono ?_;rintro e w7 ⟨rfl,D⟩;have O:=Hd D;clear D) | (go_at_call 120;refine (a2.out _ O.out).mono ?_;rintro e w8 ⟨rfl,H⟩;have a6:=Hd H;clear H))
            go_roundg (f - A)
            case measure=>omega
            case rel=>exact ⟨A,f,r.lim,decide (B - f ≥ (B - A) / 8),ap,d5,rfl,rfl,rfl,congrArg Value.bool (eighth γ γ),rfl,γ,γ,Nr _,γ,γ,a6.out,P.out⟩
          ·have qb:decide (c<0)=false:=decide_eq_false q;have V:(decide (A > 0) && !(ltF j) r.pi.1[A - 1]! r.pi.1[r.pivot]!)=true:=by rw [aj.out,qb];simpa using bu.out
           go_wp2;obtain ⟨kc,kn⟩:=kcn wc;refine wk ?_;repeat (go_big_quiet_step ((go_at_call 67;exact Qf (CB.out _ (Kin.h _)))))
           refine kq1 (fun wq hq=>?_);clear kc kn;have HP:=Hd (L.out.kept hq);clear hq L rk fk ra fa CB aj q qb e8 br bs;obtain ⟨f,d4,R⟩:∃ f d4,Sort.partitionEqual (ltF j) r.pi.1 A B r.pivot=(f,d4):=⟨_,_,rfl⟩;have X:=V;simp only [Bool.and_eq_true,decide_eq_true_eq,Bool.not_eq_true'] at X;obtain ⟨r1,r2,r3,r4,_⟩:=Sort.round_eq HO.out (Sort.partitionEqual_holds (ltF j)) X.1 (Nat.le_of_lt z) C (show B≤r.pi.1.size by omega) ah.out X.2 R
           have Z:∀ k,k<d4.size→d4[k]! < N:=by
            have cb:∀ i,A≤i→i<B→(ltF j) r.pi.1[i]! r.pi.1[r.pivot]! = false:=fun i h1 h2=>by
             rcases ah.out with q | q
             ·omega
             ·exact HO.out.ntrans _ _ _ (q i h1 h2) X.2
            have M:=(Sort.partitionEqual_holds (ltF j) HO.out r.pi.1 A B r.pivot (Nat.le_of_lt z) C γ cb).2.2.1;rw [R] at M;exact Yk γ M HL.out.2.2
           have CE:Hid (∀ W:World,SrtW w W g o r.pi.1→Cl 173 #[.slice (Ad g o) n l,I (A:Int),I (B:Int),I (r.pivot:Int),.func (.func 67) #[K] #[]] W fun e w'=>e=.returned (I (f:Int))∧SrtW w w' g o d4):=fun W Y=>by
            have:=partEq_any w g o n l A B r.pivot N K j HC.out r.pi.1 γ HL.out.2.2 z C γ hn W Y;rw [R] at this;exact this
           have P:Hid (Sort.Below (ltF j) f B d4∧(∀ k,k<d4.size→d4[k]! < N)∧d4.size=n∧Sort.pdq (ltF j) d4 f B r.lim wb wp=T):=⟨r4,Z,by rw [r3];omega,by
            rw [← HA.out,Sort.pdq_eq h12 hl0 (by rw [← u.out];exact ad) (by rw [← u.out];exact V) (by rw [← u.out,R];exact ⟨r1,r2⟩),← u.out,R]⟩
           clear R r3 r4 Z X ih;go_wp2_with (go_at_call 173;refine (CE.out _ HP.out).mono ?_;rintro e w7 ⟨rfl,D⟩;have O:=Hd D;clear D)
           go_roundg (B - f)
           case measure=>omega
           case rel=>exact ⟨f,B,r.lim,wb,wp,d4,rfl,rfl,rfl,rfl,rfl,r2,γ,Nr _,γ,γ,O.out,P.out⟩
end Go.Proofs.YtjkjpopghkeibaaGreatDoor
