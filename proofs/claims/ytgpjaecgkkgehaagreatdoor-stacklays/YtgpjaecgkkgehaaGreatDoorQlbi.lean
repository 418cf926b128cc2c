/- A part of the proof of stackLays_holds. -/
import Derived.Test.YtgpjaecgkkgehaaGreatDoorQlay
import Derived.Test.YtgpjaecgkkgehaaGreatDoorQlaj
import Derived.Test.YtgpjaecgkkgehaaGreatDoorQlbc
import Derived.Test.YtgpjaecgkkgehaaGreatDoorQlao
import Derived.Test.YtgpjaecgkkgehaaGreatDoorQlat
import Derived.Test.YtgpjaecgkkgehaaGreatDoorQlad
import Derived.Test.YtgpjaecgkkgehaaGreatDoorQlaz
import Derived.Test.YtgpjaecgkkgehaaGreatDoorQlag
import Derived.Test.YtgpjaecgkkgehaaGreatDoorQlbh
set_option maxRecDepth 100000
set_option maxHeartbeats 40000000
namespace Go.Proofs.YtgpjaecgkkgehaaGreatDoor
open Go.RowKit Go.ChangeMaps
def CrOne (ks:List Int) (n:Nat):Prop := ∀i j,i<j→j<n→(ck ks i 0,ck ks i 1,ck ks i 2,ck ks i 3)≠(ck ks j 0,ck ks j 1,ck ks j 2,ck ks j 3)
theorem kdn_not {ks:List Int} {e:Int×Int×Int×Int}:∀{n:Nat},(∀i,i<n→e≠(ck ks i 0,ck ks i 1,ck ks i 2,ck ks i 3))→kdn ks n e=0
 | 0,_=>rfl
 | n+1,h=>by
  unfold kdn
  rw [if_neg (h n (by omega))]
  exact kdn_not (fun i hi=>h i (by omega))
theorem kdn_at {ks:List Int} {e:Int×Int×Int×Int} {i:Nat}:∀{n:Nat},CrOne ks n→i<n→e=(ck ks i 0,ck ks i 1,ck ks i 2,ck ks i 3)→kdn ks n e=ck ks i 4
 | 0,_,h,_=>by omega
 | n+1,hc,h,he=>by
  unfold kdn
  by_cases hi:i=n
  ·subst hi
   rw [if_pos he]
  ·rw [if_neg (fun e2=>hc i n (by omega) (by omega) (he.symm.trans e2))]
   exact kdn_at (fun a b hab hb=>hc a b hab (by omega)) (by omega) he
theorem CRow.kept2 {w w':World} {cb:Option Addr} {ks:List Int} {n:Nat} (h:CRow w cb ks n) (hb:Bl w w'):CRow w' cb ks n:=h.kept hb
theorem kindOf_any (w:World) (W H:Value) (mk:Value) (cb:Option Addr) (n ccap:Nat) (ks:List Int) (p q r s:Int) (hC:CRow w cb ks n) (h1:CrOne ks n) (hn:n≤3518437208883) :
  Calls Tryz.prog 42 #[.agg #[W,H,mk,.slice cb n ccap],.agg #[.int .i64 p,.int .i64 q,.int .i64 r,.int .i64 s]] w fun e w'=>e=.returned (.int .i64 (kdn ks n (p,q,r,s)))∧Bl w w':=by
 have HC:Hid (CRow w cb ks n):=hC
 have H1:Hid (CrOne ks n):=h1
 have he:=eql27
 clear hC h1
 go_enter Tryz.func42,Tryz.ntmps42
 go_wp2
 go_loopg [5] n (fun gk s5 wx=>∃i:Nat,i≤n∧gk=n-i∧s5=.int .i64 (i:Int)∧(∀k,k<i→(p,q,r,s)≠(ck ks k 0,ck ks k 1,ck ks k 2,ck ks k 3))∧Bl w wx∧(wx.cell? ⟨w.heap.size,3,none⟩=some (.slice cb n ccap)∧wx.cell? ⟨w.heap.size+1,0,none⟩=some (.int .i64 p)∧wx.cell? ⟨w.heap.size+1,1,none⟩=some (.int .i64 q)∧wx.cell? ⟨w.heap.size+1,2,none⟩=some (.int .i64 r)∧wx.cell? ⟨w.heap.size+1,3,none⟩=some (.int .i64 s)))
 case atStart=>exact ⟨0,by omega,rfl,rfl,fun k h=>by omega,Qb (Qb (Qc _)),by simp [go_sem]⟩
 case round =>
  obtain ⟨i,hi,rfl,rfl,hno,hB,p3,d0,d1,d2,d3⟩:=hrel
  have HB:Hid (Bl w wr∧∀k,k<i→(p,q,r,s)≠(ck ks k 0,ck ks k 1,ck ks k 2,ck ks k 3)):=⟨hB,hno⟩
  clear hB hno
  have z0:w.heap.size<wr.heap.size:=bk p3
  have z1:w.heap.size+1<wr.heap.size:=bk d0
  by_cases h1:i<n
  ·have i1:(i:Int)<(n:Int):=by omega
   have i0:(0:Int)≤(i:Int):=by omega
   obtain ⟨bb,bo,rfl,c0,c1,c2,c3,c4⟩:=(HC.out.kept HB.out.1) i h1
   have zb:bb<wr.heap.size:=bk c0
   obtain ⟨a0,ha0⟩:∃a,a=ck ks i 0:=⟨_,rfl⟩
   obtain ⟨a1,ha1⟩:∃a,a=ck ks i 1:=⟨_,rfl⟩
   obtain ⟨a2,ha2⟩:∃a,a=ck ks i 2:=⟨_,rfl⟩
   obtain ⟨a3,ha3⟩:∃a,a=ck ks i 3:=⟨_,rfl⟩
   obtain ⟨a4,ha4⟩:∃a,a=ck ks i 4:=⟨_,rfl⟩
   rw [←ha0] at c0
   rw [←ha1] at c1
   rw [←ha2] at c2
   rw [←ha3] at c3
   rw [←ha4] at c4
   have HA:Hid ((a0,a1,a2,a3)=(ck ks i 0,ck ks i 1,ck ks i 2,ck ks i 3)∧a4=ck ks i 4):=⟨by rw [ha0,ha1,ha2,ha3],ha4⟩
   clear ha0 ha1 ha2 ha3 ha4
   cases hs:sameB a0 a1 a2 a3 p q r s
   ·have hne:Hid ((p,q,r,s)≠(ck ks i 0,ck ks i 1,ck ks i 2,ck ks i 3)):=by
     have:(p,q,r,s)≠(ck ks i 0,ck ks i 1,ck ks i 2,ck ks i 3):=by
      rw [←HA.out.1]
      intro e
      simp only [Prod.mk.injEq] at e
      obtain ⟨rfl,rfl,rfl,rfl⟩:=e
      simp [sameB] at hs
     exact this
    go_wp2
    go_quiet (fail)
    go_wp2
    go_roundg (n-(i+1))
    case measure=>omega
    case rel =>
     refine ⟨i+1,by omega,rfl,by go_num,fun k hk=>?_,Qk HB.out.1,p3,d0,d1,d2,d3⟩
     by_cases e:k=i
     ·subst e
      exact hne.out
     ·exact HB.out.2 k (by omega)
   ·have heq:Hid ((p,q,r,s)=(ck ks i 0,ck ks i 1,ck ks i 2,ck ks i 3)):=by
     have:(p,q,r,s)=(ck ks i 0,ck ks i 1,ck ks i 2,ck ks i 3):=by
      rw [←HA.out.1]
      simp only [sameB,decide_eq_true_eq] at hs
      obtain ⟨rfl,rfl,rfl,rfl⟩:=hs
      rfl
     exact this
    go_wp2
    go_quiet (fail)
    generalize hwd:World.drewN wr _=wd
    have p3d:wd.cell? ⟨w.heap.size,3,none⟩=some (.slice (some ⟨bb,bo,none⟩) n ccap):=by rw [←hwd];exact p3
    have c4d:wd.cell? ⟨bb,bo+i*5+4,none⟩=some (.int .i64 a4):=by rw [←hwd];exact c4
    have HBd:Hid (Bl w wd):=by rw [←hwd];exact Qk HB.out.1
    clear hwd p3 c0 c1 c2 c3 c4 d0 d1 d2 d3
    go_wp2
    go_ret
    refine ⟨?_,HBd.out⟩
    rw [kdn_at H1.out h1 heq.out,HA.out.2]
    rfl
  ·have i1:¬(i:Int)<(n:Int):=by omega
   obtain rfl:i=n:=by omega
   go_wp2
   go_ret
   refine ⟨?_,HB.out.1⟩
   rw [kdn_not HB.out.2]
   rfl
theorem line_along {t:Int×Int×Int} {p q r s:Int} (h:hasT t (p,q,r,s)=true) (hb:(0≤t.1∧t.1≤8)∧(0≤t.2.1∧t.2.1≤8)∧(0≤t.2.2∧t.2.2≤3)) :
  ∃V:Nat,V≤3∧lnW (p,q,r,s)=(V:Int)∧lnC (p,q,r,s)=alongOf (V:Int) p q∧alongOf (V:Int) p q=alongOf (V:Int) r s∧∀v:Nat,v<V→alongOf (v:Int) p q≠alongOf (v:Int) r s:=by
 obtain ⟨x,y,k⟩:=t
 simp only [hasT] at h hb
 rw [Xw] at h
 obtain ⟨hx,hy,hk⟩:=hb
 have hk4:k=0∨k=1∨k=2∨k=3:=by omega
 have key:p≠r→q≠s→(s<q→p+q=r+s)∧(¬s<q→p-q=r-s∧p+q≠r+s):=by
  rcases hk4 with rfl|rfl|rfl|rfl<;>simp only [e0_0,e0_1,e0_2,e0_3,e1_0,e1_1,e1_2,e1_3,e2_0,e2_1,e2_2,e2_3] at h<;>omega
 clear h hk4 hx hy hk
 by_cases c1:p=r
 ·exact ⟨0,by omega,by simp [lnW,c1],by simp [lnC,c1,alongOf],by simp [alongOf,c1],fun v hv=>by omega⟩
 ·by_cases c2:q=s
  ·refine ⟨1,by omega,by simp [lnW,c1,c2],by simp [lnC,c1,c2,alongOf],by simp [alongOf,c2],fun v hv=>?_⟩
   obtain rfl:v=0:=by omega
   simpa [alongOf] using c1
  ·obtain ⟨k1,k2⟩:=key c1 c2
   by_cases c3:s<q
   ·refine ⟨2,by omega,by simp [lnW,c1,c2,c3],by simp [lnC,c1,c2,c3,alongOf],by simp [alongOf];exact k1 c3,fun v hv=>?_⟩
    have:v=0∨v=1:=by omega
    rcases this with rfl|rfl
    ·simpa [alongOf] using c1
    ·simpa [alongOf] using c2
   ·obtain ⟨k3,k4⟩:=k2 c3
    refine ⟨3,by omega,by simp [lnW,c1,c2,c3],by simp [lnC,c1,c2,c3,alongOf],by simp [alongOf];exact k3,fun v hv=>?_⟩
    have:v=0∨v=1∨v=2:=by omega
    rcases this with rfl|rfl|rfl
    ·simpa [alongOf] using c1
    ·simpa [alongOf] using c2
    ·simpa [alongOf] using k4
theorem Xa (y a b:Int) (w:World) (h1:0≤a∧a≤100) (h2:0≤b∧b≤100) :
  Calls Tryz.prog 81 #[.int .i64 y,.agg #[.int .i64 a,.int .i64 b]] w fun e w'=>e=.returned (.int .i64 (alongOf y a b))∧Bl w w':=by
 refine (valueOf_any y a b w (by omega) (by omega) (by omega) (by omega)).mono ?_
 rintro e w' ⟨rfl,o,rfl⟩
 exact ⟨rfl,Qb (Qc _)⟩
theorem refLine_any (p q r s:Int) (w:World) (V:Nat) (hV:V≤3) (h1:(0≤p∧p≤100)∧(0≤q∧q≤100)) (h2:(0≤r∧r≤100)∧(0≤s∧s≤100)) (heq:alongOf (V:Int) p q=alongOf (V:Int) r s) (hne:∀v:Nat,v<V→alongOf (v:Int) p q≠alongOf (v:Int) r s) :
  Calls Tryz.prog 45 #[.agg #[.int .i64 p,.int .i64 q,.int .i64 r,.int .i64 s]] w fun e w'=>e=.returned (.agg #[.int .i64 (V:Int),.int .i64 (alongOf (V:Int) p q)])∧Bl w w':=by
 have H1:Hid (((0≤p∧p≤100)∧(0≤q∧q≤100))∧((0≤r∧r≤100)∧(0≤s∧s≤100))):=⟨h1,h2⟩
 have HE:Hid (alongOf (V:Int) p q=alongOf (V:Int) r s∧∀v:Nat,v<V→alongOf (v:Int) p q≠alongOf (v:Int) r s):=⟨heq,hne⟩
 clear h1 h2 heq hne
 go_enter Tryz.func45,Tryz.ntmps45
 go_wp2
 go_loopg [3] V (fun gk s3 wx=>∃v:Nat,v≤V∧gk=V-v∧s3=.int .i64 (v:Int)∧Bl w wx∧(wx.cell? ⟨w.heap.size,0,none⟩=some (.int .i64 p)∧wx.cell? ⟨w.heap.size,1,none⟩=some (.int .i64 q)∧wx.cell? ⟨w.heap.size,2,none⟩=some (.int .i64 r)∧wx.cell? ⟨w.heap.size,3,none⟩=some (.int .i64 s))∧(wx.cell? ⟨w.heap.size+1,0,none⟩=some (.int .i64 0)∧wx.cell? ⟨w.heap.size+1,1,none⟩=some (.int .i64 0)∧wx.frozen? ⟨w.heap.size+1,0,none⟩=false∧wx.frozen? ⟨w.heap.size+1,1,none⟩=false))
 case atStart=>exact ⟨0,by omega,rfl,rfl,Qb (Qb (Qc _)),by simp [go_sem],by simp [go_sem]⟩
 case round =>
  obtain ⟨v,hv,rfl,rfl,hB,⟨d0,d1,d2,d3⟩,e0,e1,g0,g1⟩:=hrel
  have HB:Hid (Bl w wr):=hB
  have HD:Hid ((wr.cell? ⟨w.heap.size,0,none⟩=some (.int .i64 p)∧wr.cell? ⟨w.heap.size,1,none⟩=some (.int .i64 q)∧wr.cell? ⟨w.heap.size,2,none⟩=some (.int .i64 r)∧wr.cell? ⟨w.heap.size,3,none⟩=some (.int .i64 s))∧(wr.cell? ⟨w.heap.size+1,0,none⟩=some (.int .i64 0)∧wr.cell? ⟨w.heap.size+1,1,none⟩=some (.int .i64 0)∧wr.frozen? ⟨w.heap.size+1,0,none⟩=false∧wr.frozen? ⟨w.heap.size+1,1,none⟩=false)):=⟨⟨d0,d1,d2,d3⟩,e0,e1,g0,g1⟩
  clear hB
  have z0:w.heap.size<wr.heap.size:=bk d0
  have z1:w.heap.size+1<wr.heap.size:=bk e0
  have kc:=Kin.cells wr
  have kn:Nonempty (Kin wr):=⟨⟨wr,Qc _⟩⟩
  by_cases h1:v<V
  ·have hne:¬alongOf (v:Int) p q=alongOf (v:Int) r s:=HE.out.2 v h1
   have CV:Hid (∀(a b:Int) (W':World),((a=p∧b=q)∨(a=r∧b=s))→Calls Tryz.prog 81 #[.int .i64 (v:Int),.agg #[.int .i64 a,.int .i64 b]] W' fun e w'=>e=.returned (.int .i64 (alongOf (v:Int) a b))∧Bl W' w'):=fun a b W' h=>by
    rcases h with ⟨rfl,rfl⟩|⟨rfl,rfl⟩
    ·exact Xa _ _ _ W' H1.out.1.1 H1.out.1.2
    ·exact Xa _ _ _ W' H1.out.2.1 H1.out.2.2
   go_wp2
   refine Qg (by kernel_rfl) (by kernel_rfl) ?_
   repeat (go_big_quiet_step ((go_at_call 81;exact Qo (CV.out _ _ _ (by first|exact Or.inl ⟨rfl,rfl⟩|exact Or.inr ⟨rfl,rfl⟩)))))
   refine wpQuiet_nil ?_
   intro wq hw'
   obtain ⟨nq,hw''⟩:=hw'
   have hq:Bl wr wq:=hw'' ▸ nq.h
   have HQ:Hid (Bl wr wq):=hq
   clear hw'' nq hq kc kn d0 d1 d2 d3 e0 e1 g0 g1
   go_wp2
   go_roundg (V-(v+1))
   case measure=>omega
   case rel =>
    exact ⟨v+1,by omega,rfl,by go_num,Qe HB.out HQ.out,⟨Qa HQ.out HD.out.1.1,Qa HQ.out HD.out.1.2.1,Qa HQ.out HD.out.1.2.2.1,Qa HQ.out HD.out.1.2.2.2⟩,Qa HQ.out HD.out.2.1,Qa HQ.out HD.out.2.2.1,(HQ.out.frozen (p:=⟨w.heap.size+1,0,none⟩) z1).trans HD.out.2.2.2.1,(HQ.out.frozen (p:=⟨w.heap.size+1,1,none⟩) z1).trans HD.out.2.2.2.2⟩
  ·obtain rfl:v=V:=by omega
   have heq:alongOf (v:Int) r s=alongOf (v:Int) p q:=HE.out.1.symm
   have CV:Hid (∀(a b:Int) (W':World),((a=p∧b=q)∨(a=r∧b=s))→Calls Tryz.prog 81 #[.int .i64 (v:Int),.agg #[.int .i64 a,.int .i64 b]] W' fun e w'=>e=.returned (.int .i64 (alongOf (v:Int) a b))∧Bl W' w'):=fun a b W' h=>by
    rcases h with ⟨rfl,rfl⟩|⟨rfl,rfl⟩
    ·exact Xa _ _ _ W' H1.out.1.1 H1.out.1.2
    ·exact Xa _ _ _ W' H1.out.2.1 H1.out.2.2
   go_wp2
   refine Qg (by kernel_rfl) (by kernel_rfl) ?_
   repeat (go_big_quiet_step ((go_at_call 81;exact Qo (CV.out _ _ _ (by first|exact Or.inl ⟨rfl,rfl⟩|exact Or.inr ⟨rfl,rfl⟩)))))
   refine wpQuiet_nil ?_
   intro wq hw'
   obtain ⟨nq,hw''⟩:=hw'
   have hq:Bl wr wq:=hw'' ▸ nq.h
   have HQ:Hid (Bl wr wq):=hq
   have D0:=Qa hq d0
   have D1:=Qa hq d1
   have zq:w.heap.size<wq.heap.size:=bk D0
   clear hw'' nq hq kc kn d0 d1 d2 d3 e0 e1 g0 g1
   go_wp2_with (go_at_call 81;refine (CV.out _ _ _ (by exact Or.inl ⟨rfl,rfl⟩)).mono ?_;rintro e w9 ⟨rfl,hb⟩;have HB9:Hid (Bl wr w9):=Qe HQ.out hb;have r0:=Qa HB9.out HD.out.2.1;have r1:=Qa HB9.out HD.out.2.2.1;have t0:=(HB9.out.frozen (p:=⟨w.heap.size+1,0,none⟩) z1).trans HD.out.2.2.2.1;have t1:=(HB9.out.frozen (p:=⟨w.heap.size+1,1,none⟩) z1).trans HD.out.2.2.2.2;have z9:w.heap.size+1<w9.heap.size:=bk r0;clear hb)
   refine bodyPost_ret (v:=.agg #[.int .i64 (v:Int),.int .i64 (alongOf (v:Int) p q)]) (by simp [results,Tryz.results45,go_sem,r0,r1]) rfl ⟨rfl,?_⟩
   with_reducible repeat (first|exact Qe HB.out HB9.out|refine Ql ?_ ?_)
   all_goals (dsimp only;omega)
theorem lessE_iff (a b c d p q r s:Int):lessE a b c d p q r s=true↔(a<p∨(a=p∧b<q)∨(a=p∧b=q∧(c<r∨(c=r∧d<s)))):=by
 simp only [lessE,lessB,Bool.or_eq_true,Bool.and_eq_true,decide_eq_true_eq]
 omega
theorem cr_less {L:List (Int×Int×Int)} {ks:List Int} {n:Nat} (h:∀i,i<n→CrOk L ks i):∀d i,i+d+1<n→lessE (ck ks i 0) (ck ks i 1) (ck ks i 2) (ck ks i 3) (ck ks (i+d+1) 0) (ck ks (i+d+1) 1) (ck ks (i+d+1) 2) (ck ks (i+d+1) 3)=true
 | 0,i,hi=>(h (i+0+1) hi).1 (by omega)
 | d+1,i,hi=>by
  have h1:=cr_less h d i (by omega)
  have h2:=(h (i+(d+1)+1) hi).1 (by omega)
  have e:i+(d+1)+1 - 1=i+d+1:=by omega
  rw [e] at h2
  rw [lessE_iff] at h1 h2 ⊢
  omega
theorem cr_one {L:List (Int×Int×Int)} {ks:List Int} {n:Nat} (h:∀i,i<n→CrOk L ks i):CrOne ks n:=fun i j hij hj e=>by
 have h1:=cr_less h (j-i - 1) i (by omega)
 rw [show i+(j-i - 1)+1=j by omega] at h1
 rw [lessE_iff] at h1
 simp only [Prod.mk.injEq] at e
 omega
def LayNo (w:World) (W H:Int) (zs ks:List Int) (n:Nat):Prop := ∀(W':World) (a' c':Option Addr) (ca' cc':Nat),Bl w W'→Row W' a' zs→Row W' c' ks→Calls Tryz.prog 65 #[.agg #[.int .i64 W,.int .i64 H,.slice a' zs.length ca',.slice c' n cc']] W' fun e w'=>e=.returned (.tuple #[.agg #[.slice none 0 0,.map none,.map none],.bool false])∧Bl W' w'
def MayIs (w:World) (W H:Int) (a c:Option Addr) (ca cc:Nat) (zs:List Int) (n:Nat) (bb:Bool):Prop := ∀W':World,Bl w W'→Calls Tryz.prog 10 #[.agg #[.int .i64 W,.int .i64 H,.slice a zs.length ca,.slice c n cc]] W' fun e w'=>e=.returned (.bool bb)∧Bl W' w'
theorem sheet_either (W H:Int) (a c:Option Addr) (ca cc n:Nat) (zs ks:List Int) (w:World) (hz:Row w a zs) (hk:Row w c ks) (hn:ks.length=n*5) (h2:n≤3518437208883) (hs:Steps w) :
  (LayNo w W H zs ks n∧MayIs w W H a c ca cc zs n false) ∨
  (∃(Wn Hn b off:Nat),W=(Wn:Int)∧H=(Hn:Int)∧a=some ⟨b,off,none⟩∧(1≤Wn∧Wn≤8)∧(1≤Hn∧Hn≤8)∧zs.length=Wn*Hn∧maskB zs=true∧Joined (ty zs Wn Hn)∧(∀i,i<n→CrOk (ty zs Wn Hn) ks i)∧MayIs w W H a c ca cc zs n true):=by
 cases hc:cellsB W H zs
 ·exact Or.inl ⟨fun W' a' c' ca' cc' hb q1 q2=>lay_bad W H a' ca' zs _ W' q1 hc,fun W' hb=>sheetMay_bad W H a ca zs _ W' (hz.kept hb) hc⟩
 ·simp only [cellsB,Bool.and_eq_true,decide_eq_true_eq,sideB] at hc
  obtain ⟨⟨⟨q1,q2⟩,q3⟩,q4⟩:=hc
  obtain ⟨Wn,rfl⟩:∃m:Nat,W=(m:Int):=⟨W.toNat,by omega⟩
  obtain ⟨Hn,rfl⟩:∃m:Nat,H=(m:Int):=⟨H.toNat,by omega⟩
  have hl:zs.length=Wn*Hn:=by
   rw [←Int.natCast_mul] at q3
   omega
  have h0:0<zs.length:=by
   rw [hl]
   exact Nat.mul_pos (by omega) (by omega)
  have hW:1≤Wn∧Wn≤8:=by omega
  have hH:1≤Hn∧Hn≤8:=by omega
  obtain ⟨b,off,rfl,_⟩:=hz 0 h0
  have hM:∀W':World,Bl w W'→Calls Tryz.prog 10 #[.agg #[.int .i64 (Wn:Int),.int .i64 (Hn:Int),.slice (some ⟨b,off,none⟩) zs.length ca,.slice c n cc]] W' fun e w'=>∃bb:Bool,e=.returned (.bool bb)∧(bb=true↔((∀i,i<n→CrOk (ty zs Wn Hn) ks i)∧Joined (ty zs Wn Hn)))∧Bl W' w':=fun W' hW'=>sheetMay_any Wn Hn b off ca n cc c zs ks W' (hz.kept hW') hW hH hl q4 (hk.kept hW') hn h2
  by_cases hok:(∀i,i<n→CrOk (ty zs Wn Hn) ks i)∧Joined (ty zs Wn Hn)
  ·refine Or.inr ⟨Wn,Hn,b,off,rfl,rfl,rfl,hW,hH,hl,q4,hok.2,hok.1,fun W' hb=>(hM W' hb).mono ?_⟩
   rintro e w' ⟨bb,rfl,hbb,hb'⟩
   rw [hbb.2 hok]
   exact ⟨rfl,hb'⟩
  ·refine Or.inl ⟨fun W' a' c' ca' cc' hb r1 r2=>?_,fun W' hb=>(hM W' hb).mono ?_⟩
   ·obtain ⟨ba,oa,rfl,_⟩:=r1 0 h0
    by_cases hJ:Joined (ty zs Wn Hn)
    ·exact lay_nocrease Wn Hn ba oa ca' n cc' c' zs ks W' r1 hW hH hl q4 r2 hn h2 (hs.kept hb) hJ (fun h=>hok ⟨h,hJ⟩)
    ·exact lay_nojoin Wn Hn ba oa ca' n cc' c' zs ks W' r1 hW hH hl q4 r2 hn h2 (hs.kept hb) hJ
   ·rintro e w' ⟨bb,rfl,hbb,hb'⟩
    obtain rfl:bb=false:=by
     cases bb with
     | false=>rfl
     | true=>exact absurd (hbb.1 rfl) hok
    exact ⟨rfl,hb'⟩
end Go.Proofs.YtgpjaecgkkgehaaGreatDoor
namespace Go.Proofs.YtgpjaecgkkgehaaGreatDoor
open Go.RowKit
theorem neqC (a b c d e:Int) (w:World):(binOp .neq 83 (.agg #[.int .i64 a,.int .i64 b,.int .i64 c,.int .i64 d,.int .i64 e]) (.agg #[.int .i64 a,.int .i64 b,.int .i64 c,.int .i64 d,.int .i64 e])).run Tryz.prog w=.ok (.bool false) w:=by
 simp [go_sem]
theorem sameSheet_yes (W H:Int) (a1 a2 c1 c2:Option Addr) (k1 k2 d1 d2 n:Nat) (zs ks:List Int) (w:World) (hz1:Row w a1 zs) (hz2:Row w a2 zs) (hk1:Row w c1 ks) (hk2:Row w c2 ks) (hn:ks.length=n*5) (hl:zs.length≤17592186044416) (hn2:n≤3518437208883) :
  Calls Tryz.prog 47 #[.agg #[.int .i64 W,.int .i64 H,.slice a1 zs.length k1,.slice c1 n d1],.agg #[.int .i64 W,.int .i64 H,.slice a2 zs.length k2,.slice c2 n d2]] w fun e w'=>e=.returned (.bool true)∧Bl w w':=by
 have HR:Hid (Row w a1 zs∧Row w a2 zs∧Row w c1 ks∧Row w c2 ks∧ks.length=n*5):=⟨hz1,hz2,hk1,hk2,hn⟩
 obtain ⟨w0,hw0⟩:∃W0,W0=(w.alloc (.cells #[.int .i64 W,.int .i64 H,.slice a1 zs.length k1,.slice c1 n d1] 25)).alloc (.cells #[.int .i64 W,.int .i64 H,.slice a2 zs.length k2,.slice c2 n d2] 25):=⟨_,rfl⟩
 have hx:w0.cell? ⟨w.heap.size,2,none⟩=some (.slice a1 zs.length k1)∧w0.cell? ⟨w.heap.size,3,none⟩=some (.slice c1 n d1)∧w0.cell? ⟨w.heap.size+1,2,none⟩=some (.slice a2 zs.length k2)∧w0.cell? ⟨w.heap.size+1,3,none⟩=some (.slice c2 n d2):=by
  rw [hw0]
  simp [go_sem]
 have HX:Hid (w0.cell? ⟨w.heap.size,2,none⟩=some (.slice a1 zs.length k1)∧w0.cell? ⟨w.heap.size,3,none⟩=some (.slice c1 n d1)∧w0.cell? ⟨w.heap.size+1,2,none⟩=some (.slice a2 zs.length k2)∧w0.cell? ⟨w.heap.size+1,3,none⟩=some (.slice c2 n d2)):=hx
 have hb0:Bl w w0:=by
  rw [hw0]
  exact Qb (Qb (Qc _))
 have HB0:Hid (Bl w w0):=hb0
 have HW0:Hid ((w.alloc (.cells #[.int .i64 W,.int .i64 H,.slice a1 zs.length k1,.slice c1 n d1] 25)).alloc (.cells #[.int .i64 W,.int .i64 H,.slice a2 zs.length k2,.slice c2 n d2] 25)=w0):=hw0.symm
 have q1:(W != W)=false:=by simp
 have q2:(H != H)=false:=by simp
 have q3:((zs.length:Int) != (zs.length:Int))=false:=by simp
 have q4:((n:Int) != (n:Int))=false:=by simp
 have hc:=neqC
 clear hx hb0 hw0 hz1 hz2 hk1 hk2 hn
 go_enter Tryz.func47,Tryz.ntmps47
 go_wp2
 go_loopg [5] zs.length (fun gk s5 wx=>∃i:Nat,i≤zs.length∧gk=zs.length-i∧s5=.int .i64 (i:Int)∧Bl w0 wx)
 case atStart=>exact ⟨0,by omega,rfl,rfl,by rw [HW0.out];exact Qc _⟩
 case round =>
  obtain ⟨i,hi,rfl,rfl,hB⟩:=hrel
  have HB:Hid (Bl w0 wr):=hB
  have p0:=Qa hB HX.out.1
  have p1:=Qa hB HX.out.2.2.1
  have zp:w.heap.size<wr.heap.size:=bk p0
  have zp1:w.heap.size+1<wr.heap.size:=bk p1
  clear hB
  by_cases h1:i<zs.length
  ·have i1:(i:Int)<(zs.length:Int):=by omega
   have i0:(0:Int)≤(i:Int):=by omega
   obtain ⟨b1,o1,rfl,r1⟩:=HR.out.1 i h1
   obtain ⟨b2,o2,rfl,r2⟩:=HR.out.2.1 i h1
   replace r1:=Qa (Qe HB0.out HB.out) r1
   replace r2:=Qa (Qe HB0.out HB.out) r2
   have zb1:b1<wr.heap.size:=bk r1
   have zb2:b2<wr.heap.size:=bk r2
   obtain ⟨z,hz⟩:∃z,z=zs[i]:=⟨_,rfl⟩
   rw [←hz] at r1 r2
   have qz:(z != z)=false:=by simp
   clear hz
   go_wp2
   have kc:=Kin.cells wr
   have kn:Nonempty (Kin wr):=⟨⟨wr,Qc _⟩⟩
   refine Qg (by kernel_rfl) (by kernel_rfl) ?_
   repeat (go_big_quiet_step (fail))
   refine wpQuiet_nil ?_
   intro wq hw'
   obtain ⟨nq,hw''⟩:=hw'
   have hq:Bl wr wq:=hw'' ▸ nq.h
   clear hw'' nq kc kn p0 p1 r1 r2
   go_wp2
   go_roundg (zs.length-(i+1))
   case measure=>omega
   case rel=>exact ⟨i+1,by omega,rfl,by go_num,Qe HB.out hq⟩
  ·have i1:¬(i:Int)<(zs.length:Int):=by omega
   go_wp2
   clear p0 p1 zp zp1 i1 h1
   go_loopg [6] n (fun gk s6 wx=>∃i:Nat,i≤n∧gk=n-i∧s6=.int .i64 (i:Int)∧Bl w0 wx)
   case atStart=>exact ⟨0,by omega,rfl,rfl,HB.out⟩
   case round =>
    clear HB
    obtain ⟨i,hi,rfl,rfl,hB⟩:=hrel
    have HB:Hid (Bl w0 wr):=hB
    have p0:=Qa hB HX.out.2.1
    have p1:=Qa hB HX.out.2.2.2
    have zp:w.heap.size<wr.heap.size:=bk p0
    have zp1:w.heap.size+1<wr.heap.size:=bk p1
    clear hB
    by_cases h1:i<n
    ·have i1:(i:Int)<(n:Int):=by omega
     have i0:(0:Int)≤(i:Int):=by omega
     obtain ⟨b1,o1,rfl,r0,r1,r2,r3,r4⟩:=(Jt HR.out.2.2.1 HR.out.2.2.2.2).kept (Qe HB0.out HB.out) i h1
     obtain ⟨b2,o2,rfl,s0,s1,s2,s3,s4⟩:=(Jt HR.out.2.2.2.1 HR.out.2.2.2.2).kept (Qe HB0.out HB.out) i h1
     have zb1:b1<wr.heap.size:=bk r0
     have zb2:b2<wr.heap.size:=bk s0
     obtain ⟨v0,hv0⟩:∃z,z=ck ks i 0:=⟨_,rfl⟩
     obtain ⟨v1,hv1⟩:∃z,z=ck ks i 1:=⟨_,rfl⟩
     obtain ⟨v2,hv2⟩:∃z,z=ck ks i 2:=⟨_,rfl⟩
     obtain ⟨v3,hv3⟩:∃z,z=ck ks i 3:=⟨_,rfl⟩
     obtain ⟨v4,hv4⟩:∃z,z=ck ks i 4:=⟨_,rfl⟩
     rw [←hv0] at r0 s0
     rw [←hv1] at r1 s1
     rw [←hv2] at r2 s2
     rw [←hv3] at r3 s3
     rw [←hv4] at r4 s4
     clear hv0 hv1 hv2 hv3 hv4
     go_wp2
     have kc:=Kin.cells wr
     have kn:Nonempty (Kin wr):=⟨⟨wr,Qc _⟩⟩
     refine Qg (by kernel_rfl) (by kernel_rfl) ?_
     repeat (go_big_quiet_step (fail))
     refine wpQuiet_nil ?_
     intro wq hw'
     obtain ⟨nq,hw''⟩:=hw'
     have hq:Bl wr wq:=hw'' ▸ nq.h
     clear hw'' nq kc kn p0 p1 r0 r1 r2 r3 r4 s0 s1 s2 s3 s4
     go_wp2
     go_roundg (n-(i+1))
     case measure=>omega
     case rel=>exact ⟨i+1,by omega,rfl,by go_num,Qe HB.out hq⟩
    ·have i1:¬(i:Int)<(n:Int):=by omega
     go_wp2
     go_ret
     exact ⟨rfl,Qe HB0.out HB.out⟩
theorem sameTris_yes (a c:Option Addr) (ca cc:Nat) (L:List (Int×Int×Int)) (w:World) (hL:L.length≤300) (ha:TRow w a L) (hc:TRow w c L) :
  Calls Tryz.prog 27 #[.slice a L.length ca,.slice c L.length cc] w fun e w'=>e=.returned (.bool true)∧Bl w w':=by
 have HA:Hid (TRow w a L):=ha
 have HC:Hid (TRow w c L):=hc
 clear ha hc
 go_enter Tryz.func27,Tryz.ntmps27
 go_wp2
 go_loopg [5] L.length (fun gk s5 wx=>∃i:Nat,i≤L.length∧gk=L.length-i∧s5=.int .i64 (i:Int)∧Bl w wx)
 case atStart=>exact ⟨0,by omega,rfl,rfl,Qc _⟩
 case round =>
  obtain ⟨i,hi,rfl,rfl,hB⟩:=hrel
  have HB:Hid (Bl w wr):=hB
  clear hB
  by_cases h1:i<L.length
  ·have i1:(i:Int)<(L.length:Int):=by omega
   have i0:(0:Int)≤(i:Int):=by omega
   obtain ⟨g,rfl,t0,t1,t2⟩:=(HA.out.kept HB.out) i h1
   obtain ⟨g',rfl,u0,u1,u2⟩:=(HC.out.kept HB.out) i h1
   have z1:g<wr.heap.size:=bk t0
   have z2:g'<wr.heap.size:=bk u0
   obtain ⟨x,hx⟩:∃x,x=L[i].1:=⟨_,rfl⟩
   obtain ⟨y,hy⟩:∃y,y=L[i].2.1:=⟨_,rfl⟩
   obtain ⟨k,hk⟩:∃k,k=L[i].2.2:=⟨_,rfl⟩
   rw [←hx] at t0 u0
   rw [←hy] at t1 u1
   rw [←hk] at t2 u2
   have hneq:∀w':World,(binOp .neq 56 (.agg #[.int .i64 x,.int .i64 y,.int .i64 k]) (.agg #[.int .i64 x,.int .i64 y,.int .i64 k])).run Tryz.prog w'=.ok (.bool false) w':=fun w'=>by
    have:=neq23 x y k x y k w'
    simpa [sameT] using this
   clear hx hy hk
   have kc:=Kin.cells wr
   have kn:Nonempty (Kin wr):=⟨⟨wr,Qc _⟩⟩
   go_wp2
   refine Qg (by kernel_rfl) (by kernel_rfl) ?_
   repeat (go_big_quiet_step (fail))
   refine wpQuiet_nil ?_
   intro wq hw'
   obtain ⟨nq,hw''⟩:=hw'
   have hq:Bl wr wq:=hw'' ▸ nq.h
   have HQ:Hid (Bl w wq):=Qe HB.out hq
   clear hw'' nq hq kc kn
   go_wp2
   go_roundg (L.length-(i+1))
   case measure=>omega
   case rel=>exact ⟨i+1,by omega,rfl,by go_num,HQ.out⟩
  ·have i1:¬(i:Int)<(L.length:Int):=by omega
   go_wp2
   go_ret
   exact ⟨rfl,HB.out⟩
def SRow (w:World) (a:Option Addr) (S:List ((Int×Int×Int)×List (Int×Int×Int))):Prop :=
 ∀i (h:i<S.length),∃g sa sc,a=some ⟨g,0,none⟩∧w.cell? ⟨g,i*4,none⟩=some (.int .i64 S[i].1.1)∧w.cell? ⟨g,i*4+1,none⟩=some (.int .i64 S[i].1.2.1)∧w.cell? ⟨g,i*4+2,none⟩=some (.int .i64 S[i].1.2.2)∧w.cell? ⟨g,i*4+3,none⟩=some (.slice sa S[i].2.length sc)∧TRow w sa S[i].2
theorem SRow.kept {w w':World} {a:Option Addr} {S:List ((Int×Int×Int)×List (Int×Int×Int))} (h:SRow w a S) (hb:Bl w w'):SRow w' a S:=fun i hi=>by
 obtain ⟨g,sa,sc,e,c0,c1,c2,c3,ht⟩:=h i hi
 exact ⟨g,sa,sc,e,Qa hb c0,Qa hb c1,Qa hb c2,Qa hb c3,ht.kept hb⟩
theorem neqT_same (a b c:Int) (w:World):(binOp .neq 56 (.agg #[.int .i64 a,.int .i64 b,.int .i64 c]) (.agg #[.int .i64 a,.int .i64 b,.int .i64 c])).run Tryz.prog w=.ok (.bool false) w:=by
 simp [go_sem]
theorem sameState_yes (W H:Int) (a1 a2 c1 c2:Option Addr) (k1 k2 d1 d2 n g1 g2 m1 m2 N u1 u2:Nat) (t1 t2:Option Addr) (zs ks:List Int) (M:Nat→M6) (S:List ((Int×Int×Int)×List (Int×Int×Int))) (w:World) (hz1:Row w a1 zs) (hz2:Row w a2 zs) (hk1:Row w c1 ks) (hk2:Row w c2 ks) (hn:ks.length=n*5) (hl:zs.length≤17592186044416) (hn2:n≤3518437208883) (hM1:MRow w g1 N M) (hM2:MRow w g2 N M) (hN:N≤300) (hS1:SRow w t1 S) (hS2:SRow w t2 S) (hSl:S.length≤300) (hSe:∀s∈S,s.2.length≤300) :
  Calls Tryz.prog 14 #[.agg #[.int .i64 W,.int .i64 H,.slice a1 zs.length k1,.slice c1 n d1,.slice (some ⟨g1,0,none⟩) N m1,.slice t1 S.length u1],.agg #[.int .i64 W,.int .i64 H,.slice a2 zs.length k2,.slice c2 n d2,.slice (some ⟨g2,0,none⟩) N m2,.slice t2 S.length u2]] w fun e w'=>e=.returned (.bool true)∧Bl w w':=by
 have CS:Hid (∀W':World,Bl w W'→Calls Tryz.prog 47 #[.agg #[.int .i64 W,.int .i64 H,.slice a1 zs.length k1,.slice c1 n d1],.agg #[.int .i64 W,.int .i64 H,.slice a2 zs.length k2,.slice c2 n d2]] W' fun e w'=>e=.returned (.bool true)∧Bl W' w'):=fun W' hW'=>sameSheet_yes W H a1 a2 c1 c2 k1 k2 d1 d2 n zs ks W' (hz1.kept hW') (hz2.kept hW') (hk1.kept hW') (hk2.kept hW') hn hl hn2
 have HR:Hid (MRow w g1 N M∧MRow w g2 N M∧SRow w t1 S∧SRow w t2 S∧∀s∈S,s.2.length≤300):=⟨hM1,hM2,hS1,hS2,hSe⟩
 obtain ⟨w0,hw0⟩:∃W0,W0=(w.alloc (.cells #[.int .i64 W,.int .i64 H,.slice a1 zs.length k1,.slice c1 n d1,.slice (some ⟨g1,0,none⟩) N m1,.slice t1 S.length u1] 29)).alloc (.cells #[.int .i64 W,.int .i64 H,.slice a2 zs.length k2,.slice c2 n d2,.slice (some ⟨g2,0,none⟩) N m2,.slice t2 S.length u2] 29):=⟨_,rfl⟩
 have hx:w0.cell? ⟨w.heap.size,4,none⟩=some (.slice (some ⟨g1,0,none⟩) N m1)∧w0.cell? ⟨w.heap.size,5,none⟩=some (.slice t1 S.length u1)∧w0.cell? ⟨w.heap.size+1,4,none⟩=some (.slice (some ⟨g2,0,none⟩) N m2)∧w0.cell? ⟨w.heap.size+1,5,none⟩=some (.slice t2 S.length u2):=by
  rw [hw0]
  simp [go_sem]
 have HX:Hid (w0.cell? ⟨w.heap.size,4,none⟩=some (.slice (some ⟨g1,0,none⟩) N m1)∧w0.cell? ⟨w.heap.size,5,none⟩=some (.slice t1 S.length u1)∧w0.cell? ⟨w.heap.size+1,4,none⟩=some (.slice (some ⟨g2,0,none⟩) N m2)∧w0.cell? ⟨w.heap.size+1,5,none⟩=some (.slice t2 S.length u2)):=hx
 have hb0:Bl w w0:=by
  rw [hw0]
  exact Qb (Qb (Qc _))
 have HB0:Hid (Bl w w0):=hb0
 have HW0:Hid ((w.alloc (.cells #[.int .i64 W,.int .i64 H,.slice a1 zs.length k1,.slice c1 n d1,.slice (some ⟨g1,0,none⟩) N m1,.slice t1 S.length u1] 29)).alloc (.cells #[.int .i64 W,.int .i64 H,.slice a2 zs.length k2,.slice c2 n d2,.slice (some ⟨g2,0,none⟩) N m2,.slice t2 S.length u2] 29)=w0):=hw0.symm
 have q3:((N:Int) != (N:Int))=false:=by simp
 have q4:((S.length:Int) != (S.length:Int))=false:=by simp
 have hc:=neqM
 have hc2:=neqT_same
 clear hx hb0 hw0 hz1 hz2 hk1 hk2 hn hM1 hM2 hS1 hS2 hSe hl hn2
 go_enter Tryz.func14,Tryz.ntmps14
 go_upto_region 3 with (go_at_call 47;refine (CS.out _ (by with_reducible exact Qb (Qb (Qc _)))).mono ?_;rintro e w1 ⟨rfl,hb1⟩;have HB1:Hid (Bl w0 w1):=(by rw [HW0.out] at hb1;exact hb1);have e0:=Qa HB1.out HX.out.1;have e1:=Qa HB1.out HX.out.2.1;have e2:=Qa HB1.out HX.out.2.2.1;have e3:=Qa HB1.out HX.out.2.2.2;have ze0:w.heap.size<w1.heap.size:=bk e0;have ze1:w.heap.size+1<w1.heap.size:=bk e2;clear hb1)
 clear CS HW0 e0 e1 e2 e3 ze0 ze1
 go_wp2
 go_loopg [5] N (fun gk s5 wx=>∃i:Nat,i≤N∧gk=N-i∧s5=.int .i64 (i:Int)∧Bl w0 wx)
 case atStart=>exact ⟨0,by omega,rfl,rfl,HB1.out⟩
 case round =>
  clear HB1
  obtain ⟨i,hi,rfl,rfl,hB⟩:=hrel
  have HB:Hid (Bl w0 wr):=hB
  have p0:=Qa hB HX.out.1
  have p1:=Qa hB HX.out.2.2.1
  have zp:w.heap.size<wr.heap.size:=bk p0
  have zp1:w.heap.size+1<wr.heap.size:=bk p1
  clear hB
  by_cases h1:i<N
  ·have i1:(i:Int)<(N:Int):=by omega
   have i0:(0:Int)≤(i:Int):=by omega
   obtain ⟨⟨r0,r1,r2,r3,r4,r5⟩,_⟩:=(HR.out.1.kept (Qe HB0.out HB.out)) i h1
   obtain ⟨⟨s0,s1,s2,s3,s4,s5⟩,_⟩:=(HR.out.2.1.kept (Qe HB0.out HB.out)) i h1
   obtain ⟨A,B,C,D,E,F,hmi⟩:∃A B C D E F,M i=(A,B,C,D,E,F):=⟨_,_,_,_,_,_,rfl⟩
   rw [hmi] at r0 r1 r2 r3 r4 r5 s0 s1 s2 s3 s4 s5
   dsimp only at r0 r1 r2 r3 r4 r5 s0 s1 s2 s3 s4 s5
   have hsm:sameM A B C D E F A B C D E F=true:=by simp [sameM]
   have zb1:g1<wr.heap.size:=bk r0
   have zb2:g2<wr.heap.size:=bk s0
   clear hmi
   go_wp2
   have kc:=Kin.cells wr
   have kn:Nonempty (Kin wr):=⟨⟨wr,Qc _⟩⟩
   refine Qg (by kernel_rfl) (by kernel_rfl) ?_
   repeat (go_big_quiet_step (fail))
   refine wpQuiet_nil ?_
   intro wq hw'
   obtain ⟨nq,hw''⟩:=hw'
   have hq:Bl wr wq:=hw'' ▸ nq.h
   clear hw'' nq kc kn p0 p1 r0 r1 r2 r3 r4 r5 s0 s1 s2 s3 s4 s5
   go_wp2
   go_roundg (N-(i+1))
   case measure=>omega
   case rel=>exact ⟨i+1,by omega,rfl,by go_num,Qe HB.out hq⟩
  ·have i1:¬(i:Int)<(N:Int):=by omega
   go_wp2
   clear p0 p1 zp zp1 i1 h1
   go_loopg [6] S.length (fun gk s6 wx=>∃i:Nat,i≤S.length∧gk=S.length-i∧s6=.int .i64 (i:Int)∧Bl w0 wx)
   case atStart=>exact ⟨0,by omega,rfl,rfl,HB.out⟩
   case round =>
    clear HB
    obtain ⟨i,hi,rfl,rfl,hB⟩:=hrel
    have HB:Hid (Bl w0 wr):=hB
    have p0:=Qa hB HX.out.2.1
    have p1:=Qa hB HX.out.2.2.2
    have zp:w.heap.size<wr.heap.size:=bk p0
    have zp1:w.heap.size+1<wr.heap.size:=bk p1
    clear hB
    by_cases h1:i<S.length
    ·have i1:(i:Int)<(S.length:Int):=by omega
     have i0:(0:Int)≤(i:Int):=by omega
     obtain ⟨b1,sa1,sc1,rfl,r0,r1,r2,r3,hT1⟩:=(HR.out.2.2.1.kept (Qe HB0.out HB.out)) i h1
     obtain ⟨b2,sa2,sc2,rfl,s0,s1,s2,s3,hT2⟩:=(HR.out.2.2.2.1.kept (Qe HB0.out HB.out)) i h1
     have hle:=HR.out.2.2.2.2 S[i] (List.getElem_mem h1)
     obtain ⟨⟨⟨x,y,k⟩,T⟩,hsi⟩:∃s,s=S[i]:=⟨_,rfl⟩
     rw [←hsi] at r0 r1 r2 r3 s0 s1 s2 s3 hT1 hT2 hle
     dsimp only at r0 r1 r2 r3 s0 s1 s2 s3 hT1 hT2 hle
     have CT:Hid (∀W':World,Bl wr W'→Calls Tryz.prog 27 #[.slice sa1 T.length sc1,.slice sa2 T.length sc2] W' fun e w'=>e=.returned (.bool true)∧Bl W' w'):=fun W' hW'=>sameTris_yes sa1 sa2 sc1 sc2 T W' hle (hT1.kept hW') (hT2.kept hW')
     have zb1:b1<wr.heap.size:=bk r0
     have zb2:b2<wr.heap.size:=bk s0
     clear hsi hT1 hT2 hle
     go_wp2
     have kc:=Kin.cells wr
     have kn:Nonempty (Kin wr):=⟨⟨wr,Qc _⟩⟩
     refine Qg (by kernel_rfl) (by kernel_rfl) ?_
     repeat (go_big_quiet_step ((go_at_call 27;exact Qo (CT.out _ (Kin.h _)))))
     refine wpQuiet_nil ?_
     intro wq hw'
     obtain ⟨nq,hw''⟩:=hw'
     have hq:Bl wr wq:=hw'' ▸ nq.h
     clear hw'' nq kc kn p0 p1 r0 r1 r2 r3 s0 s1 s2 s3
     go_wp2
     go_roundg (S.length-(i+1))
     case measure=>omega
     case rel=>exact ⟨i+1,by omega,rfl,by go_num,Qe HB.out hq⟩
    ·have i1:¬(i:Int)<(S.length:Int):=by omega
     go_wp2
     go_ret
     exact ⟨rfl,Qe HB0.out HB.out⟩
end Go.Proofs.YtgpjaecgkkgehaaGreatDoor
namespace Go.Proofs.YtgpjaecgkkgehaaGreatDoor
open Go.RowKit Go.ChangeMaps
theorem facesCl_any (w:World) (pb n cc ra rk:Nat) (ad:Option Addr) (kd:Int×Int×Int×Int→Int) (nr q0 q1 q2 q3 qt:Int) (hK:KL w rk kd) (p0:w.cell? ⟨pb,0,none⟩=some (.slice ad n cc)) (p1:w.cell? ⟨pb,1,none⟩=some (.map (some ra))) (p2:w.cell? ⟨pb,2,none⟩=some (.map (some rk))) :
  Calls Tryz.prog 67 #[.int .i64 nr,.agg #[.int .i64 q0,.int .i64 q1,.int .i64 q2,.int .i64 q3,.int .i64 qt],.pointer (some ⟨pb,0,none⟩)] w fun e w'=>e=.returned (.bool (decide (kd (q0,q1,q2,q3)=0)))∧Bl w w':=by
 have CK:Hid (∀W':World,Bl w W'→Calls Tryz.prog 68 #[.agg #[.slice ad n cc,.map (some ra),.map (some rk)],.agg #[.int .i64 q0,.int .i64 q1,.int .i64 q2,.int .i64 q3]] W' fun e w'=>e=.returned (.int .i64 (kd (q0,q1,q2,q3)))∧Bl W' w'):=fun W' hW'=>kind_any W' ad n cc ra rk kd q0 q1 q2 q3 (hK.kept hW')
 have zp:pb<w.heap.size:=bk p0
 clear hK
 obtain ⟨z,hz⟩:∃z,z=kd (q0,q1,q2,q3):=⟨_,rfl⟩
 rw [←hz] at CK ⊢
 clear hz
 go_enter Tryz.func67,Tryz.ntmps67
 go_wp2_with (go_at_call 68;refine (CK.out _ (by with_reducible exact Qb (Qc _))).mono ?_;rintro e w2 ⟨rfl,hb⟩;have HB:Hid (Bl w w2):=Qe (Qb (Qc _)) hb;clear hb)
 exact bodyPost_ret (v:=.bool (decide (z=0))) (by simp [results,Tryz.results67,go_sem];rw [Bool.eq_iff_iff];simp) rfl ⟨rfl,HB.out⟩
theorem pfaces_any (w:World) (cc ra rk:Nat) (ad:Option Addr) (L:List (Int×Int×Int)) (kd:Int×Int×Int×Int→Int) (hs:Steps w) (hPA:PA w ad ra L) (hK:KL w rk kd) (hL:L.length≤300) (hnd:L.Nodup) (hbd:∀t∈L,(0≤t.1∧t.1≤8)∧(0≤t.2.1∧t.2.1≤8)∧(0≤t.2.2∧t.2.2≤3)) :
  Calls Tryz.prog 29 #[.agg #[.slice ad L.length cc,.map (some ra),.map (some rk)]] w fun e w'=>∃g part,e=.returned (.slice (some ⟨g,0,none⟩) L.length L.length)∧ZRow w' g L.length part∧PartsOk (fun e=>decide (kd e=0)) L part∧w.heap.size≤g∧Bl w w':=by
 have CP:Hid (∀W':World,Bl w W'→W'.cell? ⟨w.heap.size,0,none⟩=some (.slice ad L.length cc)→W'.cell? ⟨w.heap.size,1,none⟩=some (.map (some ra))→W'.cell? ⟨w.heap.size,2,none⟩=some (.map (some rk))→Calls Tryz.prog 54 #[.agg #[.slice ad L.length cc,.map (some ra),.map (some rk)],.func (.func 67) #[] #[.pointer (some ⟨w.heap.size,0,none⟩)]] W' fun e w'=>∃g part,e=.returned (.slice (some ⟨g,0,none⟩) L.length L.length)∧ZRow w' g L.length part∧PartsOk (fun e=>decide (kd e=0)) L part∧W'.heap.size≤g∧Bl W' w'):=fun W' hW' p0 p1 p2 =>
  parts_faces W' cc ra rk ad L w.heap.size _ (hs.kept hW') (hPA.kept hW') hL hnd hbd (fun nr q0 q1 q2 q3 qt W2 h2=>facesCl_any W2 w.heap.size L.length cc ra rk ad kd nr q0 q1 q2 q3 qt (hK.kept (Qe hW' h2)) (Qa h2 p0) (Qa h2 p1) (Qa h2 p2))
 clear hs hPA hK hnd hbd
 go_enter Tryz.func29,Tryz.ntmps29
 go_wp2_with (go_at_call 54;refine (CP.out _ (by with_reducible exact Qb (Qc _)) (by simp [go_sem]) (by simp [go_sem]) (by simp [go_sem])).mono ?_;rintro e w1 ⟨g,part,rfl,hZ,hPO,hg,hb⟩;have HW:Hid (ZRow w1 g L.length part∧PartsOk (fun e=>decide (kd e=0)) L part∧w.heap.size≤g∧Bl w w1):=⟨hZ,hPO,Nat.le_trans (by simp) hg,Qe (Qb (Qc _)) hb⟩;clear hZ hPO hg hb)
 go_ret
 exact ⟨g,part,rfl,HW.out.1,HW.out.2.1,HW.out.2.2.1,HW.out.2.2.2⟩
end Go.Proofs.YtgpjaecgkkgehaaGreatDoor
