/- A part of it. -/
import Derived.Test.YtbjmnlefkbhbdaaGreatDoorQlaz
set_option maxRecDepth 100000
set_option maxHeartbeats 40000000
namespace Go.Proofs.YtbjmnlefkbhbdaaGreatDoor
variable {d:Array Nat} {a b:Nat}
section
open Go.Sort hiding Below
theorem Xn {c:Array Nat} {N:Nat} (hb:b≤d.size) (h:PermIn a b d c) (e:∀ k,k<d.size→d[k]! < N):∀ k,k<c.size→c[k]! < N:=fun k f=>by
 by_cases q:k<a∨b≤k
 ·rw [h.2.1 k q];exact e k (by rw [← h.1];exact f)
 ·exact permIn_all d c a b (fun x=>x<N) hb h (fun i _ h2=>e i γ) k γ γ
theorem rd_lts {lt:Nat→Nat→Bool} {limit N:Nat} {wb wp:Bool} (h:SWO lt) (e:a<b) (hb:b≤d.size) (j:Sort.Below lt a b d) (l:∀ k,k<d.size→d[k]! < N) :
  (∀ k,k<(rd lt d a b limit wb wp).d1.size→(rd lt d a b limit wb wp).d1[k]! < N)∧(∀ k,k<(rd lt d a b limit wb wp).d2.size→(rd lt d a b limit wb wp).d2[k]! < N)∧(∀ k,k<(rd lt d a b limit wb wp).pi.1.size→(rd lt d a b limit wb wp).pi.1[k]! < N):=by
 obtain ⟨f,p,_,g,i,_,_,_⟩:=rd_facts (limit:=limit) (wb:=wb) (wp:=wp) h partialInsertionSort_holds reverseRange_holds e hb j;have m:PermIn a b d (rd lt d a b limit wb wp).d1:=step_break d (Nat.le_of_lt e) hb ((!wb)=true);have l1:=Xn hb m l;have n:PermIn a b (rd lt d a b limit wb wp).d1 (rd lt d a b limit wb wp).d2:=step_reverse reverseRange_holds (rd lt d a b limit wb wp).d1 (Nat.le_of_lt e) (by rw [f];exact hb) ((rd lt d a b limit wb wp).c.2=.decreasing);have l2:=Xn (by rw [f];exact hb) n l1;have o:PermIn a b (rd lt d a b limit wb wp).d2 (rd lt d a b limit wb wp).pi.1:=(step_partial partialInsertionSort_holds h (rd lt d a b limit wb wp).d2 e (by rw [g];exact hb) i ((wb && wp && decide ((rd lt d a b limit wb wp).hint=.increasing))=true)).1;exact ⟨l1,l2,Xn (by rw [g];exact hb) o l2⟩
theorem choose_far {lt:Nat→Nat→Bool} (h:¬ b - a≤12):a<(choosePivot lt d a b).1∧(choosePivot lt d a b).1<b - 1:=by
 unfold choosePivot;simp only;rw [if_pos (show b - a ≥ 8 by omega)];by_cases q:b - a ≥ 50
 ·rw [if_pos q];have e:=medianAdjacent_mem lt d (a+(b - a) / 4*1) 0;have f:=medianAdjacent_mem lt d (a+(b - a) / 4*2) (medianAdjacent lt d (a+(b - a) / 4*1) 0).2;have g:=medianAdjacent_mem lt d (a+(b - a) / 4*3) (medianAdjacent lt d (a+(b - a) / 4*2) (medianAdjacent lt d (a+(b - a) / 4*1) 0).2).2;have c:=median_mem lt d (medianAdjacent lt d (a+(b - a) / 4*1) 0).1 (medianAdjacent lt d (a+(b - a) / 4*2) (medianAdjacent lt d (a+(b - a) / 4*1) 0).2).1 (medianAdjacent lt d (a+(b - a) / 4*3) (medianAdjacent lt d (a+(b - a) / 4*2) (medianAdjacent lt d (a+(b - a) / 4*1) 0).2).2).1 (medianAdjacent lt d (a+(b - a) / 4*3) (medianAdjacent lt d (a+(b - a) / 4*2) (medianAdjacent lt d (a+(b - a) / 4*1) 0).2).2).2;omega
 ·rw [if_neg q];have c:=median_mem lt d (a+(b - a) / 4*1) (a+(b - a) / 4*2) (a+(b - a) / 4*3) 0;omega
theorem rd_pivot_lt {lt:Nat→Nat→Bool} {limit:Nat} {wb wp:Bool} (h:¬ b - a≤12):a<(rd lt d a b limit wb wp).pivot:=by
 have e:=choose_far (lt:=lt) (d:=(rd lt d a b limit wb wp).d1) h;rw [← rd_c] at e;by_cases q:(rd lt d a b limit wb wp).c.2=.decreasing
 ·rw [(rd_dec q).2.1];omega
 ·rw [(rd_not q).2.1];omega
theorem swo_key (f:Nat→Int):SWO (fun x y=>decide (f x<f y)):=by
 constructor <;> intros <;> simp_all <;> omega
end
open Go.RowKit
theorem hintN_two {h:Sort.Hint} (e:hintN h=2):h=.decreasing:=by cases h <;> simp [hintN] at e ⊢
theorem pdq_any (w:World) (g o n l N:Nat) (J:Value) (j:Nat→Nat→Int) (hc:CmpF w g N J j) (hO:Sort.SWO (ltF j)) (hn:n≤300) :
  ∀ (m a b limit:Nat) (d:Array Nat) (w1:World),b - a<m→d.size=n→SrtW w w1 g o d→a≤b→b≤n→limit≤300→(∀ k,k<d.size→d[k]! < N)→Sort.Below (ltF j) a b d →
  Cl 141 #[.slice (Ad g o) n l,I (a:Int),I (b:Int),I (limit:Int),.func (.func 100) #[J] #[]] w1 fun e w'=>e=.returned (.tuple #[])∧SrtW w w' g o (Sort.pdq (ltF j) d a b limit true true):=by
 have HC:=Hd hc;have HO:=Hd hO;clear hc hO;intro m;induction m with
 | zero=>intro _ _ _ _ _ h;omega
 | succ m ih =>
  intro a b limit d w1 hm hd hw bv bz bj hN am;obtain ⟨T,hT⟩:∃ T,T=Sort.pdq (ltF j) d a b limit true true:=⟨_,rfl⟩;rw [← hT];have HW:=H5 hw am hN hd hT.symm;clear hw am hN hd hT;go_enter Tryz.func141,Tryz.ntmps141;go_wp2;go_loopg [1,2,3,10,11] (b - a) (fun kx s1 s2 s3 c5 c6 wx=>∃ (A B t:Nat) (wb wp:Bool) (E:Array Nat),s1=I (A:Int)∧s2=I (B:Int)∧s3=I (t:Int)∧c5=.bool wb∧c6=.bool wp∧A≤B∧B≤n∧B - A≤kx∧kx≤b - a∧t≤300∧SrtW w wx g o E∧Sort.Below (ltF j) A B E∧(∀ k,k<E.size→E[k]! < N)∧E.size=n∧Sort.pdq (ltF j) E A B t wb wp=T)
  case atStart=>exact ⟨a,b,limit,true,true,d,rfl,rfl,rfl,rfl,rfl,bv,bz,Nr _,Nr _,bj,HW.out⟩
  case round =>
   clear HW;obtain ⟨A,B,t,wb,wp,E,rfl,rfl,rfl,rfl,rfl,b9,a6,ch,cg,ci,hS,ba,bb,ak,bg⟩:=hrel;have HS:=Hd hS;have HA:=Hd bg;have HD:=Hd bb;have b6:=Hd ba;clear hS bg bb ba;by_cases h12:B - A≤12
   ·have b8:(B:Int) - (A:Int)≤12:=γ;have CI:=Hd (insertion_any w g o n l A B N J j HC.out E ak HD.out b9 a6 hn wr HS.out);go_wp2_with (go_at_call 165;refine CI.out.mono ?_;rintro e w2 ⟨rfl,F⟩;have R:=Hd F;clear F)
    (try simp only [Exit.inBlock,Exit.then])
    exact bodyPost_ret (results_none rfl _ _ _) rfl ⟨rfl,by rw [← HA.out,Sort.pdq_small h12];exact R.out⟩
   ·have b8:¬ (B:Int) - (A:Int)≤12:=γ;by_cases hl0:t=0
    ·have CH:Hid (Cl 166 #[.slice (Ad g o) n l,I (A:Int),I (B:Int),.func (.func 100) #[J] #[]] wr fun e w'=>e=.returned (.tuple #[])∧SrtW w w' g o (Sort.heapSort (ltF j) E A B)):=heap_any w g o n l A B N J j HC.out E ak HD.out γ a6 hn wr HS.out
     have HE:Hid (T=Sort.heapSort (ltF j) E A B):=by
      have:T=Sort.heapSort (ltF j) E A B:=by rw [← HA.out,Sort.pdq_heap h12 hl0]
      exact this
     subst hl0;go_wp2_with (go_at_call 166;refine CH.out.mono ?_;rintro e w2 ⟨rfl,F⟩;have R:=Hd F;clear F)
     (try simp only [Exit.inBlock,Exit.then])
     exact bodyPost_ret (results_none rfl _ _ _) rfl ⟨rfl,by rw [HE.out];exact R.out⟩
    ·have bi:¬ (t:Int)=0:=γ;have c9:((t:Int) == 0)=false:=by simpa using bi
     obtain ⟨s1,B1,aj,s2,B2,ax,s3,B3⟩:=Sort.rd_facts (lt:=(ltF j)) (limit:=t) (wb:=wb) (wp:=wp) HO.out Sort.partialInsertionSort_holds Sort.reverseRange_holds (show A<B by omega) (show B≤E.size by omega) b6.out;have ab:=rd_lts (limit:=t) (wb:=wb) (wp:=wp) HO.out (show A<B by omega) (show B≤E.size by omega) b6.out HD.out;have ad:=rd_pivot_lt (lt:=(ltF j)) (d:=E) (limit:=t) (wb:=wb) (wp:=wp) h12;have bk:(Sort.rd (ltF j) E A B t wb wp).lim≤t:=Sort.rd_lim_le;obtain ⟨r,hr⟩:∃ r,r=(Sort.rd (ltF j) E A B t wb wp):=⟨_,rfl⟩;have u:=Hd hr;rw [← hr] at s1 B1 aj s2 B2 ax s3 B3 ab ad bk;rw [ak] at s1 s2 s3;have HL:=Hd ab;have ag:=Hd B3;have v:=ad;have z:=ax.2;have cd:=aj.1;have ce:=aj.2;clear ab B1 B2 B3 ad ax hr aj;go_upto_if 39 with fail
     go_cut [3] (fun s3 wx=>s3=I (r.lim:Int)∧SrtW w wx g o r.d1)
     case first =>
      cases wb
      ·have CB:Hid (Cl 167 #[.slice (Ad g o) n l,I (A:Int),I (B:Int),.func (.func 100) #[J] #[]] wr fun e w'=>e=.returned (.tuple #[])∧SrtW w w' g o r.d1):=by
        have h:=break_any w g o n l A B N J E ak HD.out b9 a6 hn wr HS.out;rw [u.out];exact h
       have ah:Hid (r.lim=t - 1):=by rw [u.out];rfl
       go_wp2_with (go_at_call 167;refine CB.out.mono ?_;rintro e w2 ⟨rfl,F⟩;have R:=Hd F;clear F)
       go_meet
       case rel=>exact ⟨by rw [ah.out];congr 1;omega,R.out⟩
      ·have ah:Hid (r.lim=t∧r.d1=E):=by rw [u.out];exact ⟨rfl,rfl⟩
       go_wp2;go_meet
       case rel=>exact ⟨by rw [ah.out.1],by rw [ah.out.2];exact HS.out⟩
     case rest =>
      obtain ⟨rfl,bc⟩:=hcut
      have CV:Hid (Cl 168 #[.slice (Ad g o) n l,I (A:Int),I (B:Int),.func (.func 100) #[J] #[]] wc fun e w'=>e=.returned (.tuple #[I (r.c.1:Int),I (hintN r.c.2:Int)])∧SrtW w w' g o r.d1):=by
       have h:=choose_any w g o n l A B N J j HC.out r.d1 s1 HL.out.1 γ a6 hn wc bc;have e:r.c=Sort.choosePivot (ltF j) r.d1 A B:=by rw [u.out];rfl
       rw [← e] at h;exact h
      clear bc HS;go_upto_if 56 with (go_at_call 168;refine CV.out.mono ?_;rintro e w2 ⟨rfl,F⟩;have R:=Hd F;clear F)
      go_cut [13,14] (fun c7 af wx=>c7=I (r.pivot:Int)∧af=I (hintN r.hint:Int)∧SrtW w wx g o r.d2)
      case first =>
       by_cases hh:r.c.2=.decreasing
       ·have au:hintN r.c.2=2:=by rw [hh];rfl
        have aa:(hintN r.c.2:Int)=2:=γ;have bh:((hintN r.c.2:Int) == 2)=true:=by simpa using aa
        have HE:Hid (r.d2=Sort.reverseRange r.d1 A B∧r.pivot=(B - 1) - (r.c.1 - A)∧r.hint=.increasing):=by
         have h:=Sort.rd_dec (lt:=(ltF j)) (d:=E) (a:=A) (b:=B) (limit:=t) (wb:=wb) (wp:=wp) (by rw [← u.out];exact hh);rw [← u.out] at h;exact h
        have bq:Hid (∀ W:World,SrtW w W g o r.d1→Cl 169 #[.slice (Ad g o) n l,I (A:Int),I (B:Int),.func (.func 100) #[J] #[]] W fun e w'=>e=.returned (.tuple #[])∧SrtW w w' g o r.d2):=fun W X=>by
         rw [HE.out.1];exact reverse_any w g o n l A B N _ r.d1 s1 HL.out.1 γ a6 hn W X
        clear hh;go_wp2_with (go_at_call 169;refine (bq.out _ R.out).mono ?_;rintro e w3 ⟨rfl,bn⟩;have bs:=Hd bn;clear bn)
        go_meet
        case rel=>exact ⟨by rw [HE.out.2.1];congr 1;omega,by rw [HE.out.2.2];rfl,bs.out⟩
       ·have au:¬ hintN r.c.2=2:=fun h=>hh (hintN_two h);have aa:¬ (hintN r.c.2:Int)=2:=γ;have bh:((hintN r.c.2:Int) == 2)=false:=by simpa using aa
        have HE:Hid (r.d2=r.d1∧r.pivot=r.c.1∧r.hint=r.c.2):=by
         have h:=Sort.rd_not (lt:=(ltF j)) (d:=E) (a:=A) (b:=B) (limit:=t) (wb:=wb) (wp:=wp) (by rw [← u.out];exact hh);rw [← u.out] at h;exact h
        clear hh;go_wp2;go_meet
        case rel=>exact ⟨by rw [HE.out.2.1],by rw [HE.out.2.2],by rw [HE.out.1];exact R.out⟩
      case rest =>
       obtain ⟨rfl,rfl,be⟩:=hcut;have an:=Hd be;clear be CV;obtain ⟨tb,bm⟩:∃ tb,tb=(wb && wp && decide (r.hint=.increasing)):=⟨_,rfl⟩;have a8:=Hd bm;clear bm;go_upto_region 15 with fail
       go_cut [14,75] (fun af c8 wx=>af=I (hintN r.hint:Int)∧c8=.bool tb∧wx=wc)
       case first =>
        obtain ⟨hi,aw⟩:∃ hi,hi=r.hint:=⟨_,rfl⟩;have HH:=Hd aw;rw [← aw] at a8 ⊢;clear aw
        cases wb <;> cases wp <;> cases hi <;>
         (go_wp2
          go_meet
          case rel=>exact ⟨by rw [← HH.out],by rw [a8.out];rfl,rfl⟩)
       case rest =>
        obtain ⟨rfl,rfl,rfl⟩:=hcut;go_upto_if 75 with fail
        go_cut [14] (fun af wx=>af=I (hintN r.hint:Int)∧r.pi.2=false∧SrtW w wx g o r.pi.1)
        case first =>
         cases tb
         ·have HE:Hid (r.pi=(r.d2,false)):=by
           have h:=Sort.rd_pi_no (lt:=(ltF j)) (d:=E) (a:=A) (b:=B) (limit:=t) (wb:=wb) (wp:=wp) (by rw [← u.out];exact a8.out.symm);rw [← u.out] at h;exact h
          go_wp2;go_meet
          case rel=>exact ⟨rfl,by rw [HE.out],by rw [HE.out];exact an.out⟩
         ·have HE:Hid (r.pi=Sort.partialInsertionSort (ltF j) r.d2 A B):=by
           have h:=Sort.rd_pi_yes (lt:=(ltF j)) (d:=E) (a:=A) (b:=B) (limit:=t) (wb:=wb) (wp:=wp) (by rw [← u.out];exact a8.out.symm);rw [← u.out] at h;exact h
          obtain ⟨pz,ay⟩:∃ pz,pz=r.pi.2:=⟨_,rfl⟩;have b7:=Hd ay
          have CP:Hid (Cl 170 #[.slice (Ad g o) n l,I (A:Int),I (B:Int),.func (.func 100) #[J] #[]] wc fun e w'=>e=.returned (.bool pz)∧SrtW w w' g o r.pi.1):=by
           have h:=pins_any w g o n l A B N J j HC.out r.d2 s2 HL.out.2.1 γ a6 hn wc an.out;rw [← HE.out,← ay] at h;exact h
          clear ay
          cases pz
          ·go_wp2_with (go_at_call 170;refine CP.out.mono ?_;rintro e w4 ⟨rfl,ae⟩;have ao:=Hd ae;clear ae)
           go_meet
           case rel=>exact ⟨rfl,b7.out.symm,ao.out⟩
          ·go_wp2_with (go_at_call 170;refine CP.out.mono ?_;rintro e w4 ⟨rfl,ae⟩;have ao:=Hd ae;clear ae)
           (try simp only [Exit.inBlock,Exit.then])
           exact bodyPost_ret (results_none rfl _ _ _) rfl ⟨rfl,by rw [← HA.out,Sort.pdq_done h12 hl0 (by rw [← u.out];exact b7.out.symm),← u.out];exact ao.out⟩
        case rest =>
         obtain ⟨rfl,ac,bf⟩:=hcut;have K:=Hd bf;clear bf an a8;rcases Nat.eq_zero_or_pos A with a7 | a7
         ·have ar:¬ (0:Int)<(A:Int):=γ;have bt:decide ((0:Int)<(A:Int))=false:=decide_eq_false ar;have bu:decide (0<A)=false:=decide_eq_false γ;have cc:¬ 0<A:=γ;have U:(decide (A > 0) && !(ltF j) r.pi.1[A - 1]! r.pi.1[r.pivot]!)=false:=by simp [a7]
          have ca:=Hd a7;clear a7;go_wp2;obtain ⟨kc,kn⟩:=kcn wc;refine wk ?_;repeat (go_big_quiet_step (fail))
          refine kq1 (fun wq hq=>?_);clear kc kn;have HP:=Hd (K.out.kept hq);clear hq K;obtain ⟨f,ap,d4,P⟩:∃ f ap d4,Sort.partition (ltF j) r.pi.1 A B r.pivot=(f,ap,d4):=⟨_,_,_,rfl⟩;obtain ⟨r1,r2,r3,r4,r5,r6,r7⟩:=Sort.round_part HO.out (Sort.partition_holds (ltF j)) (Nat.le_of_lt v) z (show B≤r.pi.1.size by omega) ag.out P;have L:=(Sort.partition_holds (ltF j) HO.out r.pi.1 A B r.pivot (Nat.le_of_lt v) z γ).2.2.1;rw [P] at L;have Y:=Xn γ L HL.out.2.2
          have CT:Hid (∀ W:World,SrtW w W g o r.pi.1→Cl 172 #[.slice (Ad g o) n l,I (A:Int),I (B:Int),I (r.pivot:Int),.func (.func 100) #[J] #[]] W fun e w'=>e=.returned (.tuple #[I (f:Int),.bool ap])∧SrtW w w' g o d4):=fun W X=>by
           have:=part_any w g o n l A B r.pivot N J j HC.out r.pi.1 γ HL.out.2.2 v z γ hn W X;rw [P] at this;exact this
          have HX:=Hd P;have O:d4.size=n:=by rw [r3];omega
          have Q:=H3 r4 r5 Y;have H6:Hid (∀ D,Sort.PermIn A f d4 D→Sort.SortedIn (ltF j) A f D→Sort.Below (ltF j) (f+1) B D):=fun D h1 h2=>(r6 D h1 h2).1;have H7:Hid (∀ D,Sort.PermIn (f+1) B d4 D→Sort.SortedIn (ltF j) (f+1) B D→Sort.Below (ltF j) A f D):=fun D h1 h2=>(r7 D h1 h2).1;clear P r3 r4 r5 r6 r7 L Y;by_cases h4:f - A<B - f
          ·have aq:(f:Int) - (A:Int)<(B:Int) - (f:Int):=γ;obtain ⟨H,sL⟩:=Sort.pdq_sorts (ltF j) HO.out d4 A f r.lim true true γ γ Q.out.1;obtain ⟨d5,s⟩:∃ d5,d5=Sort.pdq (ltF j) d4 A f r.lim true true:=⟨_,rfl⟩;rw [← s] at H sL
           have Z:Hid (∀ W:World,SrtW w W g o d4→Cl 141 #[.slice (Ad g o) n l,I (A:Int),I (f:Int),I (r.lim:Int),.func (.func 100) #[J] #[]] W fun e w'=>e=.returned (.tuple #[])∧SrtW w w' g o d5):=fun W X=>by
            rw [s];exact ih A f r.lim d4 W γ O X γ γ γ Q.out.2.2 Q.out.1
           have H5:Hid (Sort.Below (ltF j) (f+1) B d5∧(∀ k,k<d5.size→d5[k]! < N)∧d5.size=n∧Sort.pdq (ltF j) d5 (f+1) B r.lim (decide (f - A ≥ (B - A) / 8)) ap=T):=⟨H6.out _ H sL,Xn γ H Q.out.2.2,H.1.trans O,by
            rw [← HA.out,Sort.pdq_left h12 hl0 (by rw [← u.out];exact ac) (by rw [← u.out];exact U) (by rw [← u.out,HX.out];exact ⟨r1,r2⟩) (by rw [← u.out,HX.out];exact h4),← u.out,HX.out,s]⟩
           clear H sL s ih;go_wp2_with (first | (go_at_call 172;refine (CT.out _ HP.out).mono ?_;rintro e w7 ⟨rfl,C⟩;have M:=Hd C;clear C) | (go_at_call 141;refine (Z.out _ M.out).mono ?_;rintro e w8 ⟨rfl,G⟩;have a2:=Hd G;clear G))
           go_roundg (B - (f+1))
           case measure=>omega
           case rel=>exact ⟨f+1,B,r.lim,decide (f - A ≥ (B - A) / 8),ap,d5,γ8,rfl,rfl,congrArg Value.bool (eighth γ γ),rfl,γ,γ,Nr _,γ,γ,a2.out,H5.out⟩
          ·have aq:¬ (f:Int) - (A:Int)<(B:Int) - (f:Int):=γ;obtain ⟨H,sL⟩:=Sort.pdq_sorts (ltF j) HO.out d4 (f+1) B r.lim true true γ γ Q.out.2.1;obtain ⟨d5,s⟩:∃ d5,d5=Sort.pdq (ltF j) d4 (f+1) B r.lim true true:=⟨_,rfl⟩;rw [← s] at H sL
           have Z:Hid (∀ W:World,SrtW w W g o d4→Cl 141 #[.slice (Ad g o) n l,I ((f:Int)+1),I (B:Int),I (r.lim:Int),.func (.func 100) #[J] #[]] W fun e w'=>e=.returned (.tuple #[])∧SrtW w w' g o d5):=fun W X=>by
            rw [s];have:=ih (f+1) B r.lim d4 W γ O X γ γ γ Q.out.2.2 Q.out.2.1;rw [show ((f+1:Nat):Int)=(f:Int)+1 by omega] at this;exact this
           have H5:Hid (Sort.Below (ltF j) A f d5∧(∀ k,k<d5.size→d5[k]! < N)∧d5.size=n∧Sort.pdq (ltF j) d5 A f r.lim (decide (B - f ≥ (B - A) / 8)) ap=T):=⟨H7.out _ H sL,Xn γ H Q.out.2.2,H.1.trans O,by
            rw [← HA.out,Sort.pdq_right h12 hl0 (by rw [← u.out];exact ac) (by rw [← u.out];exact U) (by rw [← u.out,HX.out];exact ⟨r1,r2⟩) (by rw [← u.out,HX.out];exact h4),← u.out,HX.out,s]⟩
           clear H sL s ih;go_wp2_with (first | (go_at_call 172;refine (CT.out _ HP.out).mono ?_;rintro e w7 ⟨rfl,C⟩;have M:=Hd C;clear C) | (go_at_call 141;refine (Z.out _ M.out).mono ?_;rintro e w8 ⟨rfl,G⟩;have a2:=Hd G;clear G))
           go_roundg (f - A)
           case measure=>omega
           case rel=>exact ⟨A,f,r.lim,decide (B - f ≥ (B - A) / 8),ap,d5,rfl,rfl,rfl,congrArg Value.bool (eighth γ γ),rfl,γ,γ,Nr _,γ,γ,a2.out,H5.out⟩
         ·obtain ⟨p,hp⟩:∃ p,A=p+1:=⟨A - 1,γ⟩;have e7:A - 1=p:=γ;obtain ⟨rk,fk⟩:=K.out.row p γ;obtain ⟨ra,fa⟩:=K.out.row r.pivot γ;have lk:=HL.out.2.2 p γ;have la:=HL.out.2.2 r.pivot γ;have zh:=K.out.lt;obtain ⟨x,az⟩:∃ x,x=r.pi.1[p]!:=⟨_,rfl⟩;obtain ⟨y,b5⟩:∃ y,y=r.pi.1[r.pivot]!:=⟨_,rfl⟩;rw [← az] at rk lk;rw [← b5] at ra la;have CB:Hid (∀ W:World,Bl wc W→Rt 100 #[J,I (x:Int),I (y:Int)] W (I (j x y))):=fun W X=>HC.out W (K.out.kept X).gr x y lk la;obtain ⟨c,av⟩:∃ c,c=j x y:=⟨_,rfl⟩
          have ai:Hid ((ltF j) r.pi.1[A - 1]! r.pi.1[r.pivot]! = decide (c<0)):=by
           have:(ltF j) r.pi.1[A - 1]! r.pi.1[r.pivot]! = decide (c<0):=by rw [e7,av,az,b5];rfl
           exact this
          rw [← av] at CB;have ar:(0:Int)<(A:Int):=γ;have bt:decide ((0:Int)<(A:Int))=true:=decide_eq_true ar;have bu:decide (0<A)=true:=decide_eq_true γ;have e8:(A:Int) - 1=(p:Int):=γ;have bo:IntKind.i64.wrap ((A:Int) - 1)=(p:Int):=υ;have bp:IntKind.i64.wrap (p:Int)=(p:Int):=υ;have i1:(p:Int)<(n:Int):=γ;have i2:(r.pivot:Int)<(n:Int):=γ;have k1:(0:Int)≤(p:Int):=γ;have k2:(0:Int)≤(r.pivot:Int):=γ;have cb:=Hd hp;have br:=Hd a7;clear az b5 av lk la hp a7 e7;by_cases q:c<0
          ·have qb:decide (c<0)=true:=decide_eq_true q;have U:(decide (A > 0) && !(ltF j) r.pi.1[A - 1]! r.pi.1[r.pivot]!)=false:=by rw [ai.out,qb];simp
           go_wp2;obtain ⟨kc,kn⟩:=kcn wc;refine wk ?_;repeat (go_big_quiet_step ((go_at_call 100;exact Qm (CB.out _ (Kin.h _)))))
           refine kq1 (fun wq hq=>?_);clear kc kn;have HP:=Hd (K.out.kept hq);clear hq K rk fk ra fa CB ai q qb e8 bo bp;obtain ⟨f,ap,d4,P⟩:∃ f ap d4,Sort.partition (ltF j) r.pi.1 A B r.pivot=(f,ap,d4):=⟨_,_,_,rfl⟩;obtain ⟨r1,r2,r3,r4,r5,r6,r7⟩:=Sort.round_part HO.out (Sort.partition_holds (ltF j)) (Nat.le_of_lt v) z (show B≤r.pi.1.size by omega) ag.out P;have L:=(Sort.partition_holds (ltF j) HO.out r.pi.1 A B r.pivot (Nat.le_of_lt v) z γ).2.2.1;rw [P] at L;have Y:=Xn γ L HL.out.2.2
           have CT:Hid (∀ W:World,SrtW w W g o r.pi.1→Cl 172 #[.slice (Ad g o) n l,I (A:Int),I (B:Int),I (r.pivot:Int),.func (.func 100) #[J] #[]] W fun e w'=>e=.returned (.tuple #[I (f:Int),.bool ap])∧SrtW w w' g o d4):=fun W X=>by
            have:=part_any w g o n l A B r.pivot N J j HC.out r.pi.1 γ HL.out.2.2 v z γ hn W X;rw [P] at this;exact this
           have HX:=Hd P;have O:d4.size=n:=by rw [r3];omega
           have Q:=H3 r4 r5 Y;have H6:Hid (∀ D,Sort.PermIn A f d4 D→Sort.SortedIn (ltF j) A f D→Sort.Below (ltF j) (f+1) B D):=fun D h1 h2=>(r6 D h1 h2).1;have H7:Hid (∀ D,Sort.PermIn (f+1) B d4 D→Sort.SortedIn (ltF j) (f+1) B D→Sort.Below (ltF j) A f D):=fun D h1 h2=>(r7 D h1 h2).1;clear P r3 r4 r5 r6 r7 L Y;by_cases h4:f - A<B - f
           ·have aq:(f:Int) - (A:Int)<(B:Int) - (f:Int):=γ;obtain ⟨H,sL⟩:=Sort.pdq_sorts (ltF j) HO.out d4 A f r.lim true true γ γ Q.out.1;obtain ⟨d5,s⟩:∃ d5,d5=Sort.pdq (ltF j) d4 A f r.lim true true:=⟨_,rfl⟩;rw [← s] at H sL
            have Z:Hid (∀ W:World,SrtW w W g o d4→Cl 141 #[.slice (Ad g o) n l,I (A:Int),I (f:Int),I (r.lim:Int),.func (.func 100) #[J] #[]] W fun e w'=>e=.returned (.tuple #[])∧SrtW w w' g o d5):=fun W X=>by
             rw [s];exact ih A f r.lim d4 W γ O X γ γ γ Q.out.2.2 Q.out.1
            have H5:Hid (Sort.Below (ltF j) (f+1) B d5∧(∀ k,k<d5.size→d5[k]! < N)∧d5.size=n∧Sort.pdq (ltF j) d5 (f+1) B r.lim (decide (f - A ≥ (B - A) / 8)) ap=T):=⟨H6.out _ H sL,Xn γ H Q.out.2.2,H.1.trans O,by
             rw [← HA.out,Sort.pdq_left h12 hl0 (by rw [← u.out];exact ac) (by rw [← u.out];exact U) (by rw [← u.out,HX.out];exact ⟨r1,r2⟩) (by rw [← u.out,HX.out];exact h4),← u.out,HX.out,s]⟩
            clear H sL s ih;go_wp2_with (first | (go_at_call 172;refine (CT.out _ HP.out).mono ?_;rintro e w7 ⟨rfl,C⟩;have M:=Hd C;clear C) | (go_at_call 141;refine (Z.out _ M.out).mono ?_;rintro e w8 ⟨rfl,G⟩;have a2:=Hd G;clear G))
            go_roundg (B - (f+1))
            case measure=>omega
            case rel=>exact ⟨f+1,B,r.lim,decide (f - A ≥ (B - A) / 8),ap,d5,γ8,rfl,rfl,congrArg Value.bool (eighth γ γ),rfl,γ,γ,Nr _,γ,γ,a2.out,H5.out⟩
           ·have aq:¬ (f:Int) - (A:Int)<(B:Int) - (f:Int):=γ;obtain ⟨H,sL⟩:=Sort.pdq_sorts (ltF j) HO.out d4 (f+1) B r.lim true true γ γ Q.out.2.1;obtain ⟨d5,s⟩:∃ d5,d5=Sort.pdq (ltF j) d4 (f+1) B r.lim true true:=⟨_,rfl⟩;rw [← s] at H sL
            have Z:Hid (∀ W:World,SrtW w W g o d4→Cl 141 #[.slice (Ad g o) n l,I ((f:Int)+1),I (B:Int),I (r.lim:Int),.func (.func 100) #[J] #[]] W fun e w'=>e=.returned (.tuple #[])∧SrtW w w' g o d5):=fun W X=>by
             rw [s];have:=ih (f+1) B r.lim d4 W γ O X γ γ γ Q.out.2.2 Q.out.2.1;rw [show ((f+1:Nat):Int)=(f:Int)+1 by omega] at this;exact this
            have H5:Hid (Sort.Below (ltF j) A f d5∧(∀ k,k<d5.size→d5[k]! < N)∧d5.size=n∧Sort.pdq (ltF j) d5 A f r.lim (decide (B - f ≥ (B - A) / 8)) ap=T):=⟨H7.out _ H sL,Xn γ H Q.out.2.2,H.1.trans O,by
             rw [← HA.out,Sort.pdq_right h12 hl0 (by rw [← u.out];exact ac) (by rw [← u.out];exact U) (by rw [← u.out,HX.out];exact ⟨r1,r2⟩) (by rw [← u.out,HX.out];exact h4),← u.out,HX.out,s]⟩
            clear H sL s ih;go_wp2_with (first | (go_at_call 172;refine (CT.out _ HP.out).mono ?_;rintro e w7 ⟨rfl,C⟩;have M:=Hd C;clear C) | (go_at_call 141;refine (Z.out _ M.out).mono ?_;rintro e w8 ⟨rfl,G⟩;have a2:=Hd G;clear G))
            go_roundg (f - A)
            case measure=>omega
            case rel=>exact ⟨A,f,r.lim,decide (B - f ≥ (B - A) / 8),ap,d5,rfl,rfl,rfl,congrArg Value.bool (eighth γ γ),rfl,γ,γ,Nr _,γ,γ,a2.out,H5.out⟩
          ·have qb:decide (c<0)=false:=decide_eq_false q;have U:(decide (A > 0) && !(ltF j) r.pi.1[A - 1]! r.pi.1[r.pivot]!)=true:=by rw [ai.out,qb];simpa using br.out
           go_wp2;obtain ⟨kc,kn⟩:=kcn wc;refine wk ?_;repeat (go_big_quiet_step ((go_at_call 100;exact Qm (CB.out _ (Kin.h _)))))
           refine kq1 (fun wq hq=>?_);clear kc kn;have HP:=Hd (K.out.kept hq);clear hq K rk fk ra fa CB ai q qb e8 bo bp;obtain ⟨f,d4,P⟩:∃ f d4,Sort.partitionEqual (ltF j) r.pi.1 A B r.pivot=(f,d4):=⟨_,_,rfl⟩;have V:=U;simp only [Bool.and_eq_true,decide_eq_true_eq,Bool.not_eq_true'] at V;obtain ⟨r1,r2,r3,r4,_⟩:=Sort.round_eq HO.out (Sort.partitionEqual_holds (ltF j)) V.1 (Nat.le_of_lt v) z (show B≤r.pi.1.size by omega) ag.out V.2 P
           have Y:∀ k,k<d4.size→d4[k]! < N:=by
            have bw:∀ i,A≤i→i<B→(ltF j) r.pi.1[i]! r.pi.1[r.pivot]! = false:=fun i h1 h2=>by
             rcases ag.out with q | q
             ·omega
             ·exact HO.out.ntrans _ _ _ (q i h1 h2) V.2
            have L:=(Sort.partitionEqual_holds (ltF j) HO.out r.pi.1 A B r.pivot (Nat.le_of_lt v) z γ bw).2.2.1;rw [P] at L;exact Xn γ L HL.out.2.2
           have CE:Hid (∀ W:World,SrtW w W g o r.pi.1→Cl 171 #[.slice (Ad g o) n l,I (A:Int),I (B:Int),I (r.pivot:Int),.func (.func 100) #[J] #[]] W fun e w'=>e=.returned (I (f:Int))∧SrtW w w' g o d4):=fun W X=>by
            have:=partEq_any w g o n l A B r.pivot N J j HC.out r.pi.1 γ HL.out.2.2 v z γ hn W X;rw [P] at this;exact this
           have H5:Hid (Sort.Below (ltF j) f B d4∧(∀ k,k<d4.size→d4[k]! < N)∧d4.size=n∧Sort.pdq (ltF j) d4 f B r.lim wb wp=T):=⟨r4,Y,by rw [r3];omega,by
            rw [← HA.out,Sort.pdq_eq h12 hl0 (by rw [← u.out];exact ac) (by rw [← u.out];exact U) (by rw [← u.out,P];exact ⟨r1,r2⟩),← u.out,P]⟩
           clear P r3 r4 Y V ih;go_wp2_with (go_at_call 171;refine (CE.out _ HP.out).mono ?_;rintro e w7 ⟨rfl,C⟩;have M:=Hd C;clear C)
           go_roundg (B - f)
           case measure=>omega
           case rel=>exact ⟨f,B,r.lim,wb,wp,d4,rfl,rfl,rfl,rfl,rfl,r2,γ,Nr _,γ,γ,M.out,H5.out⟩
end Go.Proofs.YtbjmnlefkbhbdaaGreatDoor
