/- slices.pdqsortCmpFunc at numbers, by a method value. -/
import Derived.Test.YtgpjaecgkkgehaaGreatDoorQlbs
import Derived.Sort.Walk13
import Derived.Sort.AssemblyPlain
set_option maxRecDepth 100000
set_option maxHeartbeats 40000000
namespace Go.Proofs.YtgpjaecgkkgehaaGreatDoor
section
open Go.Sort hiding Below
theorem Jz {d d':Array Nat} {a b N:Nat} (hb:b≤d.size) (h:PermIn a b d d') (hN:∀k,k<d.size→d[k]! < N):∀k,k<d'.size→d'[k]! < N:=fun k hk=>by
 by_cases q:k<a∨b≤k
 ·rw [h.2.1 k q]
  exact hN k (by rw [←h.1];exact hk)
 ·exact permIn_all d d' a b (fun x=>x<N) hb h (fun i _ h2=>hN i (by omega)) k (by omega) (by omega)
theorem rd_lts {lt:Nat→Nat→Bool} {d:Array Nat} {a b limit N:Nat} {wb wp:Bool} (h:SWO lt) (hab:a<b) (hb:b≤d.size) (hB:Sort.Below lt a b d) (hN:∀k,k<d.size→d[k]! < N) :
  (∀k,k<(rd lt d a b limit wb wp).d1.size→(rd lt d a b limit wb wp).d1[k]! < N)∧(∀k,k<(rd lt d a b limit wb wp).d2.size→(rd lt d a b limit wb wp).d2[k]! < N)∧(∀k,k<(rd lt d a b limit wb wp).pi.1.size→(rd lt d a b limit wb wp).pi.1[k]! < N):=by
 obtain ⟨s1,B1,_,s2,B2,_,_,_⟩:=rd_facts (limit:=limit) (wb:=wb) (wp:=wp) h partialInsertionSort_holds reverseRange_holds hab hb hB
 have p1:PermIn a b d (rd lt d a b limit wb wp).d1:=step_break d (Nat.le_of_lt hab) hb ((!wb)=true)
 have l1:=Jz hb p1 hN
 have p2:PermIn a b (rd lt d a b limit wb wp).d1 (rd lt d a b limit wb wp).d2:=step_reverse reverseRange_holds (rd lt d a b limit wb wp).d1 (Nat.le_of_lt hab) (by rw [s1];exact hb) ((rd lt d a b limit wb wp).c.2=.decreasing)
 have l2:=Jz (by rw [s1];exact hb) p2 l1
 have p3:PermIn a b (rd lt d a b limit wb wp).d2 (rd lt d a b limit wb wp).pi.1:=(step_partial partialInsertionSort_holds h (rd lt d a b limit wb wp).d2 hab (by rw [s2];exact hb) B2 ((wb && wp && decide ((rd lt d a b limit wb wp).hint=.increasing))=true)).1
 exact ⟨l1,l2,Jz (by rw [s2];exact hb) p3 l2⟩
theorem choose_far {lt:Nat→Nat→Bool} {d:Array Nat} {a b:Nat} (h:¬b-a≤12):a<(choosePivot lt d a b).1∧(choosePivot lt d a b).1<b - 1:=by
 unfold choosePivot
 simp only
 rw [if_pos (show b-a ≥ 8 by omega)]
 by_cases q:b-a ≥ 50
 ·rw [if_pos q]
  have m1:=medianAdjacent_mem lt d (a+(b-a) / 4*1) 0
  have m2:=medianAdjacent_mem lt d (a+(b-a) / 4*2) (medianAdjacent lt d (a+(b-a) / 4*1) 0).2
  have m3:=medianAdjacent_mem lt d (a+(b-a) / 4*3) (medianAdjacent lt d (a+(b-a) / 4*2) (medianAdjacent lt d (a+(b-a) / 4*1) 0).2).2
  have m4:=median_mem lt d (medianAdjacent lt d (a+(b-a) / 4*1) 0).1 (medianAdjacent lt d (a+(b-a) / 4*2) (medianAdjacent lt d (a+(b-a) / 4*1) 0).2).1 (medianAdjacent lt d (a+(b-a) / 4*3) (medianAdjacent lt d (a+(b-a) / 4*2) (medianAdjacent lt d (a+(b-a) / 4*1) 0).2).2).1 (medianAdjacent lt d (a+(b-a) / 4*3) (medianAdjacent lt d (a+(b-a) / 4*2) (medianAdjacent lt d (a+(b-a) / 4*1) 0).2).2).2
  omega
 ·rw [if_neg q]
  have m4:=median_mem lt d (a+(b-a) / 4*1) (a+(b-a) / 4*2) (a+(b-a) / 4*3) 0
  omega
theorem rd_pivot_lt {lt:Nat→Nat→Bool} {d:Array Nat} {a b limit:Nat} {wb wp:Bool} (h:¬b-a≤12):a<(rd lt d a b limit wb wp).pivot:=by
 have hc:=choose_far (lt:=lt) (d:=(rd lt d a b limit wb wp).d1) h
 rw [←rd_c] at hc
 by_cases q:(rd lt d a b limit wb wp).c.2=.decreasing
 ·rw [(rd_dec q).2.1]
  omega
 ·rw [(rd_not q).2.1]
  omega
theorem swo_key (f:Nat→Int):SWO (fun x y=>decide (f x<f y)):=by
 constructor<;>intros<;>simp_all<;>omega
end
open Go.RowKit
theorem hintN_two {h:Sort.Hint} (e:hintN h=2):h=.decreasing:=by cases h<;>simp [hintN] at e ⊢
theorem pdq_any (w:World) (g o n cap N:Nat) (rv:Value) (cf:Nat→Nat→Int) (hc:CmpF w g N rv cf) (hO:Sort.SWO (ltF cf)) (hn:n≤300) :
  ∀(m a b limit:Nat) (d:Array Nat) (w1:World),b-a<m→d.size=n→SrtW w w1 g o d→a≤b→b≤n→limit≤300→(∀k,k<d.size→d[k]! < N)→Sort.Below (ltF cf) a b d →
  Calls Tryz.prog 144 #[.slice (some ⟨g,o,none⟩) n cap,.int .i64 (a:Int),.int .i64 (b:Int),.int .i64 (limit:Int),.func (.func 111) #[rv] #[]] w1 fun e w'=>e=.returned (.tuple #[])∧SrtW w w' g o (Sort.pdq (ltF cf) d a b limit true true):=by
 have HC:Hid (CmpF w g N rv cf):=hc
 have HO:Hid (Sort.SWO (ltF cf)):=hO
 clear hc hO
 intro m
 induction m with
 | zero=>intro _ _ _ _ _ h;omega
 | succ m ih =>
  intro a b limit d w1 hm hd hw hab hbn hlim hN hBel
  obtain ⟨T,hT⟩:∃T,T=Sort.pdq (ltF cf) d a b limit true true:=⟨_,rfl⟩
  rw [←hT]
  have HW:Hid (SrtW w w1 g o d∧Sort.Below (ltF cf) a b d∧(∀k,k<d.size→d[k]! < N)∧d.size=n∧Sort.pdq (ltF cf) d a b limit true true=T):=⟨hw,hBel,hN,hd,hT.symm⟩
  clear hw hBel hN hd hT
  go_enter Tryz.func144,Tryz.ntmps144
  go_wp2
  go_loopg [1,2,3,10,11] (b-a) (fun kx s1 s2 s3 s10 s11 wx=>∃(A B lim:Nat) (wb wp:Bool) (dk:Array Nat),s1=.int .i64 (A:Int)∧s2=.int .i64 (B:Int)∧s3=.int .i64 (lim:Int)∧s10=.bool wb∧s11=.bool wp∧A≤B∧B≤n∧B-A≤kx∧kx≤b-a∧lim≤300∧SrtW w wx g o dk∧Sort.Below (ltF cf) A B dk∧(∀k,k<dk.size→dk[k]! < N)∧dk.size=n∧Sort.pdq (ltF cf) dk A B lim wb wp=T)
  case atStart=>exact ⟨a,b,limit,true,true,d,rfl,rfl,rfl,rfl,rfl,hab,hbn,Nat.le_refl _,Nat.le_refl _,hlim,HW.out⟩
  case round =>
   clear HW
   obtain ⟨A,B,lim,wb,wp,dk,rfl,rfl,rfl,rfl,rfl,hAB,hBn,hkx,hkN,hl3,hS,hBl,hN1,hd1,hT1⟩:=hrel
   have HS:Hid (SrtW w wr g o dk):=hS
   have HA:Hid (Sort.pdq (ltF cf) dk A B lim wb wp=T):=hT1
   have HD:Hid (∀k,k<dk.size→dk[k]! < N):=hN1
   have HBl:Hid (Sort.Below (ltF cf) A B dk):=hBl
   clear hS hT1 hN1 hBl
   by_cases h12:B-A≤12
   ·have h12z:(B:Int)-(A:Int)≤12:=by omega
    have CI:Hid (Calls Tryz.prog 176 #[.slice (some ⟨g,o,none⟩) n cap,.int .i64 (A:Int),.int .i64 (B:Int),.func (.func 111) #[rv] #[]] wr fun e w'=>e=.returned (.tuple #[])∧SrtW w w' g o (Sort.insertionSort (ltF cf) dk A B)):=insertion_any w g o n cap A B N rv cf HC.out dk hd1 HD.out hAB hBn hn wr HS.out
    go_wp2_with (go_at_call 176;refine CI.out.mono ?_;rintro e w2 ⟨rfl,hw2⟩;have HW2:Hid (SrtW w w2 g o (Sort.insertionSort (ltF cf) dk A B)):=hw2;clear hw2)
    (try simp only [Exit.inBlock,Exit.then])
    exact bodyPost_ret (results_none rfl _ _ _) rfl ⟨rfl,by rw [←HA.out,Sort.pdq_small h12];exact HW2.out⟩
   ·have h12z:¬(B:Int)-(A:Int)≤12:=by omega
    by_cases hl0:lim=0
    ·have CH:Hid (Calls Tryz.prog 177 #[.slice (some ⟨g,o,none⟩) n cap,.int .i64 (A:Int),.int .i64 (B:Int),.func (.func 111) #[rv] #[]] wr fun e w'=>e=.returned (.tuple #[])∧SrtW w w' g o (Sort.heapSort (ltF cf) dk A B)):=heap_any w g o n cap A B N rv cf HC.out dk hd1 HD.out (by omega) hBn hn wr HS.out
     have HE:Hid (T=Sort.heapSort (ltF cf) dk A B):=by
      have:T=Sort.heapSort (ltF cf) dk A B:=by rw [←HA.out,Sort.pdq_heap h12 hl0]
      exact this
     subst hl0
     go_wp2_with (go_at_call 177;refine CH.out.mono ?_;rintro e w2 ⟨rfl,hw2⟩;have HW2:Hid (SrtW w w2 g o (Sort.heapSort (ltF cf) dk A B)):=hw2;clear hw2)
     (try simp only [Exit.inBlock,Exit.then])
     exact bodyPost_ret (results_none rfl _ _ _) rfl ⟨rfl,by rw [HE.out];exact HW2.out⟩
    ·have hl0z:¬(lim:Int)=0:=by omega
     have hl0b:((lim:Int) == 0)=false:=by simpa using hl0z
     obtain ⟨s1,B1,hc1,s2,B2,hpv,s3,B3⟩:=Sort.rd_facts (lt:=(ltF cf)) (limit:=lim) (wb:=wb) (wp:=wp) HO.out Sort.partialInsertionSort_holds Sort.reverseRange_holds (show A<B by omega) (show B≤dk.size by omega) HBl.out
     have hlts:=rd_lts (limit:=lim) (wb:=wb) (wp:=wp) HO.out (show A<B by omega) (show B≤dk.size by omega) HBl.out HD.out
     have hpvl:=rd_pivot_lt (lt:=(ltF cf)) (d:=dk) (limit:=lim) (wb:=wb) (wp:=wp) h12
     have hlle:(Sort.rd (ltF cf) dk A B lim wb wp).lim≤lim:=Sort.rd_lim_le
     obtain ⟨r,hr⟩:∃r,r=(Sort.rd (ltF cf) dk A B lim wb wp):=⟨_,rfl⟩
     have HR:Hid (r=(Sort.rd (ltF cf) dk A B lim wb wp)):=hr
     rw [←hr] at s1 B1 hc1 s2 B2 hpv s3 B3 hlts hpvl hlle
     rw [hd1] at s1 s2 s3
     have HL:Hid ((∀k,k<r.d1.size→r.d1[k]! < N)∧(∀k,k<r.d2.size→r.d2[k]! < N)∧(∀k,k<r.pi.1.size→r.pi.1[k]! < N)):=hlts
     have HB3:Hid (Sort.Below (ltF cf) A B r.pi.1):=B3
     have hpv1:=hpvl
     have hpv2:=hpv.2
     have hcA:=hc1.1
     have hcB:=hc1.2
     clear hlts B1 B2 B3 hpvl hpv hr hc1
     go_upto_if 39 with fail
     go_cut [3] (fun s3 wx=>s3=.int .i64 (r.lim:Int)∧SrtW w wx g o r.d1)
     case first =>
      cases wb
      ·have CB:Hid (Calls Tryz.prog 178 #[.slice (some ⟨g,o,none⟩) n cap,.int .i64 (A:Int),.int .i64 (B:Int),.func (.func 111) #[rv] #[]] wr fun e w'=>e=.returned (.tuple #[])∧SrtW w w' g o r.d1):=by
        have h:=break_any w g o n cap A B N rv dk hd1 HD.out hAB hBn hn wr HS.out
        rw [HR.out]
        exact h
       have HL2:Hid (r.lim=lim - 1):=by rw [HR.out];rfl
       go_wp2_with (go_at_call 178;refine CB.out.mono ?_;rintro e w2 ⟨rfl,hw2⟩;have HW2:Hid (SrtW w w2 g o r.d1):=hw2;clear hw2)
       go_meet
       case rel=>exact ⟨by rw [HL2.out];congr 1;omega,HW2.out⟩
      ·have HL2:Hid (r.lim=lim∧r.d1=dk):=by rw [HR.out];exact ⟨rfl,rfl⟩
       go_wp2
       go_meet
       case rel=>exact ⟨by rw [HL2.out.1],by rw [HL2.out.2];exact HS.out⟩
     case rest =>
      obtain ⟨rfl,hS1⟩:=hcut
      have CV:Hid (Calls Tryz.prog 179 #[.slice (some ⟨g,o,none⟩) n cap,.int .i64 (A:Int),.int .i64 (B:Int),.func (.func 111) #[rv] #[]] wc fun e w'=>e=.returned (.tuple #[.int .i64 (r.c.1:Int),.int .i64 (hintN r.c.2:Int)])∧SrtW w w' g o r.d1):=by
       have h:=choose_any w g o n cap A B N rv cf HC.out r.d1 s1 HL.out.1 (by omega) hBn hn wc hS1
       have e:r.c=Sort.choosePivot (ltF cf) r.d1 A B:=by rw [HR.out];rfl
       rw [←e] at h
       exact h
      clear hS1 HS
      go_upto_if 56 with (go_at_call 179;refine CV.out.mono ?_;rintro e w2 ⟨rfl,hw2⟩;have HW2:Hid (SrtW w w2 g o r.d1):=hw2;clear hw2)
      go_cut [13,14] (fun s13 s14 wx=>s13=.int .i64 (r.pivot:Int)∧s14=.int .i64 (hintN r.hint:Int)∧SrtW w wx g o r.d2)
      case first =>
       by_cases hh:r.c.2=.decreasing
       ·have hcode:hintN r.c.2=2:=by rw [hh];rfl
        have hco2:(hintN r.c.2:Int)=2:=by omega
        have hco3:((hintN r.c.2:Int) == 2)=true:=by simpa using hco2
        have HE:Hid (r.d2=Sort.reverseRange r.d1 A B∧r.pivot=(B - 1)-(r.c.1-A)∧r.hint=.increasing):=by
         have h:=Sort.rd_dec (lt:=(ltF cf)) (d:=dk) (a:=A) (b:=B) (limit:=lim) (wb:=wb) (wp:=wp) (by rw [←HR.out];exact hh)
         rw [←HR.out] at h
         exact h
        have CRv:Hid (∀W:World,SrtW w W g o r.d1→Calls Tryz.prog 180 #[.slice (some ⟨g,o,none⟩) n cap,.int .i64 (A:Int),.int .i64 (B:Int),.func (.func 111) #[rv] #[]] W fun e w'=>e=.returned (.tuple #[])∧SrtW w w' g o r.d2):=fun W hW=>by
         rw [HE.out.1]
         exact reverse_any w g o n cap A B N _ r.d1 s1 HL.out.1 (by omega) hBn hn W hW
        clear hh
        go_wp2_with (go_at_call 180;refine (CRv.out _ HW2.out).mono ?_;rintro e w3 ⟨rfl,hw3⟩;have HW3:Hid (SrtW w w3 g o r.d2):=hw3;clear hw3)
        go_meet
        case rel=>exact ⟨by rw [HE.out.2.1];congr 1;omega,by rw [HE.out.2.2];rfl,HW3.out⟩
       ·have hcode:¬hintN r.c.2=2:=fun h=>hh (hintN_two h)
        have hco2:¬(hintN r.c.2:Int)=2:=by omega
        have hco3:((hintN r.c.2:Int) == 2)=false:=by simpa using hco2
        have HE:Hid (r.d2=r.d1∧r.pivot=r.c.1∧r.hint=r.c.2):=by
         have h:=Sort.rd_not (lt:=(ltF cf)) (d:=dk) (a:=A) (b:=B) (limit:=lim) (wb:=wb) (wp:=wp) (by rw [←HR.out];exact hh)
         rw [←HR.out] at h
         exact h
        clear hh
        go_wp2
        go_meet
        case rel=>exact ⟨by rw [HE.out.2.1],by rw [HE.out.2.2],by rw [HE.out.1];exact HW2.out⟩
      case rest =>
       obtain ⟨rfl,rfl,hS3⟩:=hcut
       have HS3:Hid (SrtW w wc g o r.d2):=hS3
       clear hS3 CV
       obtain ⟨tb,htb⟩:∃tb,tb=(wb && wp && decide (r.hint=.increasing)):=⟨_,rfl⟩
       have HTB:Hid (tb=(wb && wp && decide (r.hint=.increasing))):=htb
       clear htb
       go_upto_region 15 with fail
       go_cut [14,75] (fun s14 s75 wx=>s14=.int .i64 (hintN r.hint:Int)∧s75=.bool tb∧wx=wc)
       case first =>
        obtain ⟨hi,hhi⟩:∃hi,hi=r.hint:=⟨_,rfl⟩
        have HH:Hid (hi=r.hint):=hhi
        rw [←hhi] at HTB ⊢
        clear hhi
        cases wb<;>cases wp<;>cases hi <;>
         (go_wp2
          go_meet
          case rel=>exact ⟨by rw [←HH.out],by rw [HTB.out];rfl,rfl⟩)
       case rest =>
        obtain ⟨rfl,rfl,rfl⟩:=hcut
        go_upto_if 75 with fail
        go_cut [14] (fun s14 wx=>s14=.int .i64 (hintN r.hint:Int)∧r.pi.2=false∧SrtW w wx g o r.pi.1)
        case first =>
         cases tb
         ·have HE:Hid (r.pi=(r.d2,false)):=by
           have h:=Sort.rd_pi_no (lt:=(ltF cf)) (d:=dk) (a:=A) (b:=B) (limit:=lim) (wb:=wb) (wp:=wp) (by rw [←HR.out];exact HTB.out.symm)
           rw [←HR.out] at h
           exact h
          go_wp2
          go_meet
          case rel=>exact ⟨rfl,by rw [HE.out],by rw [HE.out];exact HS3.out⟩
         ·have HE:Hid (r.pi=Sort.partialInsertionSort (ltF cf) r.d2 A B):=by
           have h:=Sort.rd_pi_yes (lt:=(ltF cf)) (d:=dk) (a:=A) (b:=B) (limit:=lim) (wb:=wb) (wp:=wp) (by rw [←HR.out];exact HTB.out.symm)
           rw [←HR.out] at h
           exact h
          obtain ⟨pz,hpz⟩:∃pz,pz=r.pi.2:=⟨_,rfl⟩
          have HPZ:Hid (pz=r.pi.2):=hpz
          have CP:Hid (Calls Tryz.prog 181 #[.slice (some ⟨g,o,none⟩) n cap,.int .i64 (A:Int),.int .i64 (B:Int),.func (.func 111) #[rv] #[]] wc fun e w'=>e=.returned (.bool pz)∧SrtW w w' g o r.pi.1):=by
           have h:=pins_any w g o n cap A B N rv cf HC.out r.d2 s2 HL.out.2.1 (by omega) hBn hn wc HS3.out
           rw [←HE.out,←hpz] at h
           exact h
          clear hpz
          cases pz
          ·go_wp2_with (go_at_call 181;refine CP.out.mono ?_;rintro e w4 ⟨rfl,hw4⟩;have HW4:Hid (SrtW w w4 g o r.pi.1):=hw4;clear hw4)
           go_meet
           case rel=>exact ⟨rfl,HPZ.out.symm,HW4.out⟩
          ·go_wp2_with (go_at_call 181;refine CP.out.mono ?_;rintro e w4 ⟨rfl,hw4⟩;have HW4:Hid (SrtW w w4 g o r.pi.1):=hw4;clear hw4)
           (try simp only [Exit.inBlock,Exit.then])
           exact bodyPost_ret (results_none rfl _ _ _) rfl ⟨rfl,by rw [←HA.out,Sort.pdq_done h12 hl0 (by rw [←HR.out];exact HPZ.out.symm),←HR.out];exact HW4.out⟩
        case rest =>
         obtain ⟨rfl,hp2,hS5⟩:=hcut
         have HS5:Hid (SrtW w wc g o r.pi.1):=hS5
         clear hS5 HS3 HTB
         rcases Nat.eq_zero_or_pos A with ha0|ha0
         ·have ha1:¬(0:Int)<(A:Int):=by omega
          have ha2:decide ((0:Int)<(A:Int))=false:=decide_eq_false ha1
          have ha3:decide (0<A)=false:=decide_eq_false (by omega)
          have ha4:¬0<A:=by omega
          have h87:(decide (A > 0) && !(ltF cf) r.pi.1[A - 1]! r.pi.1[r.pivot]!)=false:=by simp [ha0]
          have HA0:Hid (A=0):=ha0
          clear ha0
          go_wp2
          have kc:=Kin.cells wc
          have kn:Nonempty (Kin wc):=⟨⟨wc,Qc _⟩⟩
          refine Qg (by kernel_rfl) (by kernel_rfl) ?_
          repeat (go_big_quiet_step (fail))
          refine wpQuiet_nil ?_
          intro wq hw'
          obtain ⟨nq,hw''⟩:=hw'
          have hq:Bl wc wq:=hw'' ▸ nq.h
          clear hw'' nq kc kn
          have HP:Hid (SrtW w wq g o r.pi.1):=HS5.out.kept hq
          clear hq HS5
          obtain ⟨mid,ap,d4,hx⟩:∃mid ap d4,Sort.partition (ltF cf) r.pi.1 A B r.pivot=(mid,ap,d4):=⟨_,_,_,rfl⟩
          obtain ⟨r1,r2,r3,r4,r5,r6,r7⟩:=Sort.round_part HO.out (Sort.partition_holds (ltF cf)) (Nat.le_of_lt hpv1) hpv2 (show B≤r.pi.1.size by omega) HB3.out hx
          have hp4:=(Sort.partition_holds (ltF cf) HO.out r.pi.1 A B r.pivot (Nat.le_of_lt hpv1) hpv2 (by omega)).2.2.1
          rw [hx] at hp4
          have hn4:=Jz (by omega) hp4 HL.out.2.2
          have CT:Hid (∀W:World,SrtW w W g o r.pi.1→Calls Tryz.prog 183 #[.slice (some ⟨g,o,none⟩) n cap,.int .i64 (A:Int),.int .i64 (B:Int),.int .i64 (r.pivot:Int),.func (.func 111) #[rv] #[]] W fun e w'=>e=.returned (.tuple #[.int .i64 (mid:Int),.bool ap])∧SrtW w w' g o d4):=fun W hW=>by
           have:=part_any w g o n cap A B r.pivot N rv cf HC.out r.pi.1 (by omega) HL.out.2.2 hpv1 hpv2 (by omega) hn W hW
           rw [hx] at this
           exact this
          have HX:Hid (Sort.partition (ltF cf) r.pi.1 A B r.pivot=(mid,ap,d4)):=hx
          have hs4:d4.size=n:=by rw [r3];omega
          have H4:Hid (Sort.Below (ltF cf) A mid d4∧Sort.Below (ltF cf) (mid+1) B d4∧(∀k,k<d4.size→d4[k]! < N)):=⟨r4,r5,hn4⟩
          have H6:Hid (∀d',Sort.PermIn A mid d4 d'→Sort.SortedIn (ltF cf) A mid d'→Sort.Below (ltF cf) (mid+1) B d'):=fun d' h1 h2=>(r6 d' h1 h2).1
          have H7:Hid (∀d',Sort.PermIn (mid+1) B d4 d'→Sort.SortedIn (ltF cf) (mid+1) B d'→Sort.Below (ltF cf) A mid d'):=fun d' h1 h2=>(r7 d' h1 h2).1
          clear hx r3 r4 r5 r6 r7 hp4 hn4
          by_cases h4:mid-A<B-mid
          ·have h4z:(mid:Int)-(A:Int)<(B:Int)-(mid:Int):=by omega
           obtain ⟨pL,sL⟩:=Sort.pdq_sorts (ltF cf) HO.out d4 A mid r.lim true true (by omega) (by omega) H4.out.1
           obtain ⟨d5,hd5⟩:∃d5,d5=Sort.pdq (ltF cf) d4 A mid r.lim true true:=⟨_,rfl⟩
           rw [←hd5] at pL sL
           have HIH:Hid (∀W:World,SrtW w W g o d4→Calls Tryz.prog 144 #[.slice (some ⟨g,o,none⟩) n cap,.int .i64 (A:Int),.int .i64 (mid:Int),.int .i64 (r.lim:Int),.func (.func 111) #[rv] #[]] W fun e w'=>e=.returned (.tuple #[])∧SrtW w w' g o d5):=fun W hW=>by
            rw [hd5]
            exact ih A mid r.lim d4 W (by omega) hs4 hW (by omega) (by omega) (by omega) H4.out.2.2 H4.out.1
           have H5:Hid (Sort.Below (ltF cf) (mid+1) B d5∧(∀k,k<d5.size→d5[k]! < N)∧d5.size=n∧Sort.pdq (ltF cf) d5 (mid+1) B r.lim (decide (mid-A ≥ (B-A) / 8)) ap=T):=⟨H6.out _ pL sL,Jz (by omega) pL H4.out.2.2,pL.1.trans hs4,by
            rw [←HA.out,Sort.pdq_left h12 hl0 (by rw [←HR.out];exact hp2) (by rw [←HR.out];exact h87) (by rw [←HR.out,HX.out];exact ⟨r1,r2⟩) (by rw [←HR.out,HX.out];exact h4),←HR.out,HX.out,hd5]⟩
           clear pL sL hd5 ih
           go_wp2_with (first|(go_at_call 183;refine (CT.out _ HP.out).mono ?_;rintro e w7 ⟨rfl,hw7⟩;have HW7:Hid (SrtW w w7 g o d4):=hw7;clear hw7)|(go_at_call 144;refine (HIH.out _ HW7.out).mono ?_;rintro e w8 ⟨rfl,hw8⟩;have HW8:Hid (SrtW w w8 g o d5):=hw8;clear hw8))
           go_roundg (B-(mid+1))
           case measure=>omega
           case rel=>exact ⟨mid+1,B,r.lim,decide (mid-A ≥ (B-A) / 8),ap,d5,by first|rfl|go_num,rfl,rfl,congrArg Value.bool (eighth (by omega) (by omega)),rfl,by omega,by omega,Nat.le_refl _,by omega,by omega,HW8.out,H5.out⟩
          ·have h4z:¬(mid:Int)-(A:Int)<(B:Int)-(mid:Int):=by omega
           obtain ⟨pL,sL⟩:=Sort.pdq_sorts (ltF cf) HO.out d4 (mid+1) B r.lim true true (by omega) (by omega) H4.out.2.1
           obtain ⟨d5,hd5⟩:∃d5,d5=Sort.pdq (ltF cf) d4 (mid+1) B r.lim true true:=⟨_,rfl⟩
           rw [←hd5] at pL sL
           have HIH:Hid (∀W:World,SrtW w W g o d4→Calls Tryz.prog 144 #[.slice (some ⟨g,o,none⟩) n cap,.int .i64 ((mid:Int)+1),.int .i64 (B:Int),.int .i64 (r.lim:Int),.func (.func 111) #[rv] #[]] W fun e w'=>e=.returned (.tuple #[])∧SrtW w w' g o d5):=fun W hW=>by
            rw [hd5]
            have:=ih (mid+1) B r.lim d4 W (by omega) hs4 hW (by omega) (by omega) (by omega) H4.out.2.2 H4.out.2.1
            rw [show ((mid+1:Nat):Int)=(mid:Int)+1 by omega] at this
            exact this
           have H5:Hid (Sort.Below (ltF cf) A mid d5∧(∀k,k<d5.size→d5[k]! < N)∧d5.size=n∧Sort.pdq (ltF cf) d5 A mid r.lim (decide (B-mid ≥ (B-A) / 8)) ap=T):=⟨H7.out _ pL sL,Jz (by omega) pL H4.out.2.2,pL.1.trans hs4,by
            rw [←HA.out,Sort.pdq_right h12 hl0 (by rw [←HR.out];exact hp2) (by rw [←HR.out];exact h87) (by rw [←HR.out,HX.out];exact ⟨r1,r2⟩) (by rw [←HR.out,HX.out];exact h4),←HR.out,HX.out,hd5]⟩
           clear pL sL hd5 ih
           go_wp2_with (first|(go_at_call 183;refine (CT.out _ HP.out).mono ?_;rintro e w7 ⟨rfl,hw7⟩;have HW7:Hid (SrtW w w7 g o d4):=hw7;clear hw7)|(go_at_call 144;refine (HIH.out _ HW7.out).mono ?_;rintro e w8 ⟨rfl,hw8⟩;have HW8:Hid (SrtW w w8 g o d5):=hw8;clear hw8))
           go_roundg (mid-A)
           case measure=>omega
           case rel=>exact ⟨A,mid,r.lim,decide (B-mid ≥ (B-A) / 8),ap,d5,rfl,rfl,rfl,congrArg Value.bool (eighth (by omega) (by omega)),rfl,by omega,by omega,Nat.le_refl _,by omega,by omega,HW8.out,H5.out⟩
         ·obtain ⟨p,hp⟩:∃p,A=p+1:=⟨A - 1,by omega⟩
          have e7:A - 1=p:=by omega
          obtain ⟨rk,fk⟩:=HS5.out.row p (by omega)
          obtain ⟨ra,fa⟩:=HS5.out.row r.pivot (by omega)
          have lk:=HL.out.2.2 p (by omega)
          have la:=HL.out.2.2 r.pivot (by omega)
          have zh:=HS5.out.lt
          obtain ⟨x,hx0⟩:∃x,x=r.pi.1[p]!:=⟨_,rfl⟩
          obtain ⟨y,hy0⟩:∃y,y=r.pi.1[r.pivot]!:=⟨_,rfl⟩
          rw [←hx0] at rk lk
          rw [←hy0] at ra la
          have CB:Hid (∀W:World,Bl wc W→Calls Tryz.prog 111 #[rv,.int .i64 (x:Int),.int .i64 (y:Int)] W fun e w'=>e=.returned (.int .i64 (cf x y))∧Bl W w'):=fun W hW=>HC.out W (HS5.out.kept hW).gr x y lk la
          obtain ⟨c,hcv⟩:∃c,c=cf x y:=⟨_,rfl⟩
          have HLT:Hid ((ltF cf) r.pi.1[A - 1]! r.pi.1[r.pivot]! = decide (c<0)):=by
           have:(ltF cf) r.pi.1[A - 1]! r.pi.1[r.pivot]! = decide (c<0):=by rw [e7,hcv,hx0,hy0];rfl
           exact this
          rw [←hcv] at CB
          have ha1:(0:Int)<(A:Int):=by omega
          have ha2:decide ((0:Int)<(A:Int))=true:=decide_eq_true ha1
          have ha3:decide (0<A)=true:=decide_eq_true (by omega)
          have e8:(A:Int) - 1=(p:Int):=by omega
          have w8':IntKind.i64.wrap ((A:Int) - 1)=(p:Int):=by rw [IntKind.wrap_i64];omega
          have w9':IntKind.i64.wrap (p:Int)=(p:Int):=by rw [IntKind.wrap_i64];omega
          have i1:(p:Int)<(n:Int):=by omega
          have i2:(r.pivot:Int)<(n:Int):=by omega
          have k1:(0:Int)≤(p:Int):=by omega
          have k2:(0:Int)≤(r.pivot:Int):=by omega
          have HP1:Hid (A=p+1):=hp
          have HE7:Hid (0<A):=ha0
          clear hx0 hy0 hcv lk la hp ha0 e7
          by_cases q:c<0
          ·have qb:decide (c<0)=true:=decide_eq_true q
           have h87:(decide (A > 0) && !(ltF cf) r.pi.1[A - 1]! r.pi.1[r.pivot]!)=false:=by rw [HLT.out,qb];simp
           go_wp2
           have kc:=Kin.cells wc
           have kn:Nonempty (Kin wc):=⟨⟨wc,Qc _⟩⟩
           refine Qg (by kernel_rfl) (by kernel_rfl) ?_
           repeat (go_big_quiet_step ((go_at_call 111;exact Qo (CB.out _ (Kin.h _)))))
           refine wpQuiet_nil ?_
           intro wq hw'
           obtain ⟨nq,hw''⟩:=hw'
           have hq:Bl wc wq:=hw'' ▸ nq.h
           clear hw'' nq kc kn
           have HP:Hid (SrtW w wq g o r.pi.1):=HS5.out.kept hq
           clear hq HS5 rk fk ra fa CB HLT q qb e8 w8' w9'
           obtain ⟨mid,ap,d4,hx⟩:∃mid ap d4,Sort.partition (ltF cf) r.pi.1 A B r.pivot=(mid,ap,d4):=⟨_,_,_,rfl⟩
           obtain ⟨r1,r2,r3,r4,r5,r6,r7⟩:=Sort.round_part HO.out (Sort.partition_holds (ltF cf)) (Nat.le_of_lt hpv1) hpv2 (show B≤r.pi.1.size by omega) HB3.out hx
           have hp4:=(Sort.partition_holds (ltF cf) HO.out r.pi.1 A B r.pivot (Nat.le_of_lt hpv1) hpv2 (by omega)).2.2.1
           rw [hx] at hp4
           have hn4:=Jz (by omega) hp4 HL.out.2.2
           have CT:Hid (∀W:World,SrtW w W g o r.pi.1→Calls Tryz.prog 183 #[.slice (some ⟨g,o,none⟩) n cap,.int .i64 (A:Int),.int .i64 (B:Int),.int .i64 (r.pivot:Int),.func (.func 111) #[rv] #[]] W fun e w'=>e=.returned (.tuple #[.int .i64 (mid:Int),.bool ap])∧SrtW w w' g o d4):=fun W hW=>by
            have:=part_any w g o n cap A B r.pivot N rv cf HC.out r.pi.1 (by omega) HL.out.2.2 hpv1 hpv2 (by omega) hn W hW
            rw [hx] at this
            exact this
           have HX:Hid (Sort.partition (ltF cf) r.pi.1 A B r.pivot=(mid,ap,d4)):=hx
           have hs4:d4.size=n:=by rw [r3];omega
           have H4:Hid (Sort.Below (ltF cf) A mid d4∧Sort.Below (ltF cf) (mid+1) B d4∧(∀k,k<d4.size→d4[k]! < N)):=⟨r4,r5,hn4⟩
           have H6:Hid (∀d',Sort.PermIn A mid d4 d'→Sort.SortedIn (ltF cf) A mid d'→Sort.Below (ltF cf) (mid+1) B d'):=fun d' h1 h2=>(r6 d' h1 h2).1
           have H7:Hid (∀d',Sort.PermIn (mid+1) B d4 d'→Sort.SortedIn (ltF cf) (mid+1) B d'→Sort.Below (ltF cf) A mid d'):=fun d' h1 h2=>(r7 d' h1 h2).1
           clear hx r3 r4 r5 r6 r7 hp4 hn4
           by_cases h4:mid-A<B-mid
           ·have h4z:(mid:Int)-(A:Int)<(B:Int)-(mid:Int):=by omega
            obtain ⟨pL,sL⟩:=Sort.pdq_sorts (ltF cf) HO.out d4 A mid r.lim true true (by omega) (by omega) H4.out.1
            obtain ⟨d5,hd5⟩:∃d5,d5=Sort.pdq (ltF cf) d4 A mid r.lim true true:=⟨_,rfl⟩
            rw [←hd5] at pL sL
            have HIH:Hid (∀W:World,SrtW w W g o d4→Calls Tryz.prog 144 #[.slice (some ⟨g,o,none⟩) n cap,.int .i64 (A:Int),.int .i64 (mid:Int),.int .i64 (r.lim:Int),.func (.func 111) #[rv] #[]] W fun e w'=>e=.returned (.tuple #[])∧SrtW w w' g o d5):=fun W hW=>by
             rw [hd5]
             exact ih A mid r.lim d4 W (by omega) hs4 hW (by omega) (by omega) (by omega) H4.out.2.2 H4.out.1
            have H5:Hid (Sort.Below (ltF cf) (mid+1) B d5∧(∀k,k<d5.size→d5[k]! < N)∧d5.size=n∧Sort.pdq (ltF cf) d5 (mid+1) B r.lim (decide (mid-A ≥ (B-A) / 8)) ap=T):=⟨H6.out _ pL sL,Jz (by omega) pL H4.out.2.2,pL.1.trans hs4,by
             rw [←HA.out,Sort.pdq_left h12 hl0 (by rw [←HR.out];exact hp2) (by rw [←HR.out];exact h87) (by rw [←HR.out,HX.out];exact ⟨r1,r2⟩) (by rw [←HR.out,HX.out];exact h4),←HR.out,HX.out,hd5]⟩
            clear pL sL hd5 ih
            go_wp2_with (first|(go_at_call 183;refine (CT.out _ HP.out).mono ?_;rintro e w7 ⟨rfl,hw7⟩;have HW7:Hid (SrtW w w7 g o d4):=hw7;clear hw7)|(go_at_call 144;refine (HIH.out _ HW7.out).mono ?_;rintro e w8 ⟨rfl,hw8⟩;have HW8:Hid (SrtW w w8 g o d5):=hw8;clear hw8))
            go_roundg (B-(mid+1))
            case measure=>omega
            case rel=>exact ⟨mid+1,B,r.lim,decide (mid-A ≥ (B-A) / 8),ap,d5,by first|rfl|go_num,rfl,rfl,congrArg Value.bool (eighth (by omega) (by omega)),rfl,by omega,by omega,Nat.le_refl _,by omega,by omega,HW8.out,H5.out⟩
           ·have h4z:¬(mid:Int)-(A:Int)<(B:Int)-(mid:Int):=by omega
            obtain ⟨pL,sL⟩:=Sort.pdq_sorts (ltF cf) HO.out d4 (mid+1) B r.lim true true (by omega) (by omega) H4.out.2.1
            obtain ⟨d5,hd5⟩:∃d5,d5=Sort.pdq (ltF cf) d4 (mid+1) B r.lim true true:=⟨_,rfl⟩
            rw [←hd5] at pL sL
            have HIH:Hid (∀W:World,SrtW w W g o d4→Calls Tryz.prog 144 #[.slice (some ⟨g,o,none⟩) n cap,.int .i64 ((mid:Int)+1),.int .i64 (B:Int),.int .i64 (r.lim:Int),.func (.func 111) #[rv] #[]] W fun e w'=>e=.returned (.tuple #[])∧SrtW w w' g o d5):=fun W hW=>by
             rw [hd5]
             have:=ih (mid+1) B r.lim d4 W (by omega) hs4 hW (by omega) (by omega) (by omega) H4.out.2.2 H4.out.2.1
             rw [show ((mid+1:Nat):Int)=(mid:Int)+1 by omega] at this
             exact this
            have H5:Hid (Sort.Below (ltF cf) A mid d5∧(∀k,k<d5.size→d5[k]! < N)∧d5.size=n∧Sort.pdq (ltF cf) d5 A mid r.lim (decide (B-mid ≥ (B-A) / 8)) ap=T):=⟨H7.out _ pL sL,Jz (by omega) pL H4.out.2.2,pL.1.trans hs4,by
             rw [←HA.out,Sort.pdq_right h12 hl0 (by rw [←HR.out];exact hp2) (by rw [←HR.out];exact h87) (by rw [←HR.out,HX.out];exact ⟨r1,r2⟩) (by rw [←HR.out,HX.out];exact h4),←HR.out,HX.out,hd5]⟩
            clear pL sL hd5 ih
            go_wp2_with (first|(go_at_call 183;refine (CT.out _ HP.out).mono ?_;rintro e w7 ⟨rfl,hw7⟩;have HW7:Hid (SrtW w w7 g o d4):=hw7;clear hw7)|(go_at_call 144;refine (HIH.out _ HW7.out).mono ?_;rintro e w8 ⟨rfl,hw8⟩;have HW8:Hid (SrtW w w8 g o d5):=hw8;clear hw8))
            go_roundg (mid-A)
            case measure=>omega
            case rel=>exact ⟨A,mid,r.lim,decide (B-mid ≥ (B-A) / 8),ap,d5,rfl,rfl,rfl,congrArg Value.bool (eighth (by omega) (by omega)),rfl,by omega,by omega,Nat.le_refl _,by omega,by omega,HW8.out,H5.out⟩
          ·have qb:decide (c<0)=false:=decide_eq_false q
           have h87:(decide (A > 0) && !(ltF cf) r.pi.1[A - 1]! r.pi.1[r.pivot]!)=true:=by rw [HLT.out,qb];simpa using HE7.out
           go_wp2
           have kc:=Kin.cells wc
           have kn:Nonempty (Kin wc):=⟨⟨wc,Qc _⟩⟩
           refine Qg (by kernel_rfl) (by kernel_rfl) ?_
           repeat (go_big_quiet_step ((go_at_call 111;exact Qo (CB.out _ (Kin.h _)))))
           refine wpQuiet_nil ?_
           intro wq hw'
           obtain ⟨nq,hw''⟩:=hw'
           have hq:Bl wc wq:=hw'' ▸ nq.h
           clear hw'' nq kc kn
           have HP:Hid (SrtW w wq g o r.pi.1):=HS5.out.kept hq
           clear hq HS5 rk fk ra fa CB HLT q qb e8 w8' w9'
           obtain ⟨mid,d4,hx⟩:∃mid d4,Sort.partitionEqual (ltF cf) r.pi.1 A B r.pivot=(mid,d4):=⟨_,_,rfl⟩
           have h87':=h87
           simp only [Bool.and_eq_true,decide_eq_true_eq,Bool.not_eq_true'] at h87'
           obtain ⟨r1,r2,r3,r4,_⟩:=Sort.round_eq HO.out (Sort.partitionEqual_holds (ltF cf)) h87'.1 (Nat.le_of_lt hpv1) hpv2 (show B≤r.pi.1.size by omega) HB3.out h87'.2 hx
           have hn4:∀k,k<d4.size→d4[k]! < N:=by
            have hb9:∀i,A≤i→i<B→(ltF cf) r.pi.1[i]! r.pi.1[r.pivot]! = false:=fun i h1 h2=>by
             rcases HB3.out with q|q
             ·omega
             ·exact HO.out.ntrans _ _ _ (q i h1 h2) h87'.2
            have hp4:=(Sort.partitionEqual_holds (ltF cf) HO.out r.pi.1 A B r.pivot (Nat.le_of_lt hpv1) hpv2 (by omega) hb9).2.2.1
            rw [hx] at hp4
            exact Jz (by omega) hp4 HL.out.2.2
           have CE:Hid (∀W:World,SrtW w W g o r.pi.1→Calls Tryz.prog 182 #[.slice (some ⟨g,o,none⟩) n cap,.int .i64 (A:Int),.int .i64 (B:Int),.int .i64 (r.pivot:Int),.func (.func 111) #[rv] #[]] W fun e w'=>e=.returned (.int .i64 (mid:Int))∧SrtW w w' g o d4):=fun W hW=>by
            have:=partEq_any w g o n cap A B r.pivot N rv cf HC.out r.pi.1 (by omega) HL.out.2.2 hpv1 hpv2 (by omega) hn W hW
            rw [hx] at this
            exact this
           have H5:Hid (Sort.Below (ltF cf) mid B d4∧(∀k,k<d4.size→d4[k]! < N)∧d4.size=n∧Sort.pdq (ltF cf) d4 mid B r.lim wb wp=T):=⟨r4,hn4,by rw [r3];omega,by
            rw [←HA.out,Sort.pdq_eq h12 hl0 (by rw [←HR.out];exact hp2) (by rw [←HR.out];exact h87) (by rw [←HR.out,hx];exact ⟨r1,r2⟩),←HR.out,hx]⟩
           clear hx r3 r4 hn4 h87' ih
           go_wp2_with (go_at_call 182;refine (CE.out _ HP.out).mono ?_;rintro e w7 ⟨rfl,hw7⟩;have HW7:Hid (SrtW w w7 g o d4):=hw7;clear hw7)
           go_roundg (B-mid)
           case measure=>omega
           case rel=>exact ⟨mid,B,r.lim,wb,wp,d4,rfl,rfl,rfl,rfl,rfl,r2,by omega,Nat.le_refl _,by omega,by omega,HW7.out,H5.out⟩
end Go.Proofs.YtgpjaecgkkgehaaGreatDoor
