/- A part of the proof of foldFlat_holds. -/
import Derived.Test.YtgpjaecgkkgehaaGreatDoorQfaj
import Derived.Test.YtgpjaecgkkgehaaGreatDoorQfas
import Derived.Test.YtgpjaecgkkgehaaGreatDoorQfap
import Derived.Test.YtgpjaecgkkgehaaGreatDoorQfab
namespace Go.Proofs.YtgpjaecgkkgehaaGreatDoor
open Go.RowKit Go.ChangeMaps
def kdn (ks:List Int):Nat→Int×Int×Int×Int→Int
 | 0,_=>0
 | i+1,e=>if e=(ck ks i 0,ck ks i 1,ck ks i 2,ck ks i 3) then ck ks i 4 else kdn ks i e
theorem kf_kdn (ks:List Int) (e:Int×Int×Int×Int):∀ n,(kf ks n e).getD (.int .i64 0)=.int .i64 (kdn ks n e)
 | 0=>rfl
 | i+1=>by
  unfold kf kdn
  split
  ·rfl
  ·exact kf_kdn ks e i
def KL (w:World) (rk:Nat) (kd:Int×Int×Int×Int→Int):Prop := ∀ (e:Int×Int×Int×Int) (wx:World),Below w.heap.size w wx→(Instr.lookup 66 (.map (some rk)) (ek e) false).run Tryz.prog wx=.ok (.int .i64 (kd e)) wx
theorem KL.kept {w w':World} {rk:Nat} {kd:Int×Int×Int×Int→Int} (h:KL w rk kd) (hb:Below w.heap.size w w'):KL w' rk kd:=fun e wx hx=>h e wx (bl_via hb hx)
theorem zero3 (w:World):(zeroValue 3).run Tryz.prog w=.ok (.int .i64 0) w:=by kernel_rfl
theorem PK.kl {w0 w:World} {base ra rk n:Nat} {vt:Value} {L:List (Int×Int×Int)} {G:Int×Int×Int×Int→List Int} {ks:List Int} (h:PK w0 w base ra rk vt L G (kf ks n)):KL w rk (kdn ks n):=fun e wx hx=>by
 obtain ⟨ls,c,h4,h4g,h4k⟩:=h.2.2.1
 have:=lookup27 Tryz.underlying66 zero3 (h4.grown (bl_grown hx) (by simp)) h4g e
 rw [h4k e,kf_kdn] at this
 exact this
theorem kind_any (w:World) (ad:Option Addr) (n cc ra rk:Nat) (kd:Int×Int×Int×Int→Int) (p q r s:Int) (hK:KL w rk kd) :
  Calls Tryz.prog 68 #[.agg #[.slice ad n cc,.map (some ra),.map (some rk)],.agg #[.int .i64 p,.int .i64 q,.int .i64 r,.int .i64 s]] w fun e w'=>e=.returned (.int .i64 (kd (p,q,r,s)))∧Below w.heap.size w w':=by
 have hl:=hK (p,q,r,s) ((w.alloc (.cells #[.slice ad n cc,.map (some ra),.map (some rk)] 68)).alloc (.cells #[.int .i64 p,.int .i64 q,.int .i64 r,.int .i64 s] 81)) (bl_alloc (bl_alloc (bl_refl _)))
 simp only [ek] at hl
 clear hK
 go_enter Tryz.func68,Tryz.ntmps68
 go_wp2
 go_ret
 exact ⟨rfl,bl_alloc (bl_alloc (bl_refl _))⟩
theorem ret_agg2 {a b a' b':Int} (h1:a=a') (h2:b=b'):Ending.returned (.agg #[.int .i64 a,.int .i64 b])=.returned (.agg #[.int .i64 a',.int .i64 b']):=by subst h1 h2;rfl
set_option maxHeartbeats 1600000 in
theorem paperLine_any (p q r s:Int) (w:World) (h1:0≤p∧p≤100) (h2:0≤q∧q≤100) :
  Calls Tryz.prog 154 #[.agg #[.int .i64 p,.int .i64 q,.int .i64 r,.int .i64 s]] w fun e w'=>e=.returned (.agg #[.int .i64 (lnW (p,q,r,s)),.int .i64 (lnC (p,q,r,s))])∧Below w.heap.size w w':=by
 obtain ⟨a1,a2⟩:=h1
 obtain ⟨b1,b2⟩:=h2
 by_cases c1:p=r
 ·subst c1
  go_enter Tryz.func154,Tryz.ntmps154
  go_wp2
  refine bodyPost_ret (v:=.agg #[_,_]) (by simp [results,Tryz.results154,go_sem];exact ⟨rfl,rfl⟩) rfl ⟨?_, ?_⟩
  ·exact ret_agg2 (by simp [lnW]) (by simp [lnC])
  ·with_reducible repeat (first | exact bl_refl _ | refine bl_alloc ?_ | refine bl_set ?_ ?_)
   all_goals (simp)
 ·by_cases c2:q=s
  ·subst c2
   go_enter Tryz.func154,Tryz.ntmps154
   go_wp2
   refine bodyPost_ret (v:=.agg #[_,_]) (by simp [results,Tryz.results154,go_sem];exact ⟨rfl,rfl⟩) rfl ⟨?_, ?_⟩
   ·exact ret_agg2 (by simp [lnW,c1]) (by simp [lnC,c1])
   ·with_reducible repeat (first | exact bl_refl _ | refine bl_alloc ?_ | refine bl_set ?_ ?_)
    all_goals (simp)
  ·by_cases c3:s<q
   ·go_enter Tryz.func154,Tryz.ntmps154
    go_wp2
    refine bodyPost_ret (v:=.agg #[_,_]) (by simp [results,Tryz.results154,go_sem];exact ⟨rfl,rfl⟩) rfl ⟨?_, ?_⟩
    ·exact ret_agg2 (by simp [lnW,c1,c2,c3]) (by simp [lnC,c1,c2,c3])
    ·with_reducible repeat (first | exact bl_refl _ | refine bl_alloc ?_ | refine bl_set ?_ ?_)
     all_goals (simp)
   ·go_enter Tryz.func154,Tryz.ntmps154
    go_wp2
    refine bodyPost_ret (v:=.agg #[_,_]) (by simp [results,Tryz.results154,go_sem];exact ⟨rfl,rfl⟩) rfl ⟨?_, ?_⟩
    ·exact ret_agg2 (by simp only [lnW,if_neg c1,if_neg c2,if_neg (show ¬ s<q by omega)]) (by simp only [lnC,if_neg c1,if_neg c2,if_neg (show ¬ s<q by omega)])
    ·with_reducible repeat (first | exact bl_refl _ | refine bl_alloc ?_ | refine bl_set ?_ ?_)
     all_goals (simp)
def mv (m:M6):Value:=.agg #[.int .i64 m.1,.int .i64 m.2.1,.int .i64 m.2.2.1,.int .i64 m.2.2.2.1,.int .i64 m.2.2.2.2.1,.int .i64 m.2.2.2.2.2]
theorem six_cases {o:Nat} (h:o<6):o=0∨o=1∨o=2∨o=3∨o=4∨o=5:=by omega
set_option maxRecDepth 100000 in
set_option maxHeartbeats 3200000 in
theorem beyond_any (w:World) (ad:Option Addr) (n cc ra rk:Nat) (kd:Int×Int×Int×Int→Int) (p q r s A B C D E F:Int) (hK:KL w rk kd) (h1:0≤p∧p≤100) (h2:0≤q∧q≤100) (hl:lineB (lnW (p,q,r,s)) (lnC (p,q,r,s))=true∧-40≤lnC (p,q,r,s)∧lnC (p,q,r,s)≤40) (hm:GoodM (A,B,C,D,E,F) 800000) :
  Calls Tryz.prog 129 #[.agg #[.slice ad n cc,.map (some ra),.map (some rk)],.agg #[.int .i64 p,.int .i64 q,.int .i64 r,.int .i64 s],.agg #[.int .i64 A,.int .i64 B,.int .i64 C,.int .i64 D,.int .i64 E,.int .i64 F]] w fun e w'=>e=.returned (mv (farM kd (p,q,r,s) (A,B,C,D,E,F)))∧Below w.heap.size w w':=by
 have hmir:=mir_may hl.1 hl.2
 have haft:=aft_good hmir hm (by omega)
 by_cases hz:kd (p,q,r,s)=0
 ·have CK:Hid (∀ W':World,Below w.heap.size w W'→Calls Tryz.prog 68 #[.agg #[.slice ad n cc,.map (some ra),.map (some rk)],.agg #[.int .i64 p,.int .i64 q,.int .i64 r,.int .i64 s]] W' fun e w'=>e=.returned (.int .i64 0)∧Below W'.heap.size W' w'):=fun W' hW'=>hz ▸ kind_any W' ad n cc ra rk kd p q r s (hK.kept hW')
  have HF:Hid (farM kd (p,q,r,s) (A,B,C,D,E,F)=(A,B,C,D,E,F)):=by
   have:farM kd (p,q,r,s) (A,B,C,D,E,F)=(A,B,C,D,E,F):=by simp [farM,hz]
   exact this
  clear hK hl hm hmir haft h1 h2 hz
  go_enter Tryz.func129,Tryz.ntmps129
  go_wp2_with (go_at_call 68;refine (CK.out _ (by with_reducible exact bl_alloc (bl_alloc (bl_alloc (bl_alloc (bl_refl _)))))).mono ?_;rintro e w2 ⟨rfl,hb⟩;have HB:Hid (Below w.heap.size w w2):=bl_via (bl_alloc (bl_alloc (bl_alloc (bl_alloc (bl_refl _))))) hb;have m0:w2.cell? ⟨w.heap.size+1+1,0,none⟩=some (.int .i64 A):=cl_kept hb (by simp [go_sem]);have m1:w2.cell? ⟨w.heap.size+1+1,1,none⟩=some (.int .i64 B):=cl_kept hb (by simp [go_sem]);have m2:w2.cell? ⟨w.heap.size+1+1,2,none⟩=some (.int .i64 C):=cl_kept hb (by simp [go_sem]);have m3:w2.cell? ⟨w.heap.size+1+1,3,none⟩=some (.int .i64 D):=cl_kept hb (by simp [go_sem]);have m4:w2.cell? ⟨w.heap.size+1+1,4,none⟩=some (.int .i64 E):=cl_kept hb (by simp [go_sem]);have m5:w2.cell? ⟨w.heap.size+1+1,5,none⟩=some (.int .i64 F):=cl_kept hb (by simp [go_sem]);have r0:w2.cell? ⟨w.heap.size+1+1+1,0,none⟩=some (.int .i64 0):=cl_kept hb (by simp [go_sem]);have r1:w2.cell? ⟨w.heap.size+1+1+1,1,none⟩=some (.int .i64 0):=cl_kept hb (by simp [go_sem]);have r2:w2.cell? ⟨w.heap.size+1+1+1,2,none⟩=some (.int .i64 0):=cl_kept hb (by simp [go_sem]);have r3:w2.cell? ⟨w.heap.size+1+1+1,3,none⟩=some (.int .i64 0):=cl_kept hb (by simp [go_sem]);have r4:w2.cell? ⟨w.heap.size+1+1+1,4,none⟩=some (.int .i64 0):=cl_kept hb (by simp [go_sem]);have r5:w2.cell? ⟨w.heap.size+1+1+1,5,none⟩=some (.int .i64 0):=cl_kept hb (by simp [go_sem]);have fz:∀ o,o<6→w2.frozen? ⟨w.heap.size+1+1+1,o,none⟩=false:=fun o ho=>(hb.frozen (p:=⟨w.heap.size+1+1+1,o,none⟩) (by simp)).trans (by simp [go_sem]);have f0:=fz 0 (by omega);have f1:=fz 1 (by omega);have f2:=fz 2 (by omega);have f3:=fz 3 (by omega);have f4:=fz 4 (by omega);have f5:=fz 5 (by omega);have zw:w.heap.size+1+1+1<w2.heap.size:=World.block_lt_of_cell? _ _ r0;clear fz hb)
  refine bodyPost_ret (v:=.agg #[.int .i64 A,.int .i64 B,.int .i64 C,.int .i64 D,.int .i64 E,.int .i64 F]) (by simp [results,Tryz.results129,go_sem,r0,r1,r2,r3,r4,r5]) rfl ⟨by rw [HF.out];rfl, ?_⟩
  with_reducible repeat (first | exact HB.out | refine bl_set ?_ ?_)
  all_goals (dsimp only;omega)
 ·obtain ⟨z,hzz⟩:∃ z,z=kd (p,q,r,s):=⟨_,rfl⟩
  have CK:Hid (∀ W':World,Below w.heap.size w W'→Calls Tryz.prog 68 #[.agg #[.slice ad n cc,.map (some ra),.map (some rk)],.agg #[.int .i64 p,.int .i64 q,.int .i64 r,.int .i64 s]] W' fun e w'=>e=.returned (.int .i64 z)∧Below W'.heap.size W' w'):=fun W' hW'=>hzz ▸ kind_any W' ad n cc ra rk kd p q r s (hK.kept hW')
  have HF:Hid (farM kd (p,q,r,s) (A,B,C,D,E,F)=aft (mir (lnW (p,q,r,s)) (lnC (p,q,r,s))) (A,B,C,D,E,F)):=by
   have:farM kd (p,q,r,s) (A,B,C,D,E,F)=aft (mir (lnW (p,q,r,s)) (lnC (p,q,r,s))) (A,B,C,D,E,F):=by simp [farM,hz]
   exact this
  rw [← hzz] at hz
  obtain ⟨v,hv⟩:∃ v,v=lnW (p,q,r,s):=⟨_,rfl⟩
  obtain ⟨c,hc⟩:∃ c,c=lnC (p,q,r,s):=⟨_,rfl⟩
  have CL:Hid (∀ W':World,Calls Tryz.prog 154 #[.agg #[.int .i64 p,.int .i64 q,.int .i64 r,.int .i64 s]] W' fun e w'=>e=.returned (.agg #[.int .i64 v,.int .i64 c])∧Below W'.heap.size W' w'):=fun W'=>by
   rw [hv,hc]
   exact paperLine_any p q r s W' h1 h2
  rw [← hv,← hc] at hl hmir haft HF
  obtain ⟨a,b,c',d,e,f,hmv⟩:∃ a b c' d e f,mir v c=(a,b,c',d,e,f):=⟨_,_,_,_,_,_,rfl⟩
  have CM:Hid (∀ W':World,Calls Tryz.prog 153 #[.agg #[.int .i64 v,.int .i64 c]] W' fun e' w'=>e'=.returned (.tuple #[.agg #[.int .i64 a,.int .i64 b,.int .i64 c',.int .i64 d,.int .i64 e,.int .i64 f],.int .i64 0])∧Below W'.heap.size W' w'):=fun W'=>by
   have h:=Mirror_yes v c W' hl.1 hmir.1
   simp only [mir,Prod.mk.injEq] at hmv
   obtain ⟨rfl,rfl,rfl,rfl,rfl,rfl⟩:=hmv
   exact h
  rw [hmv] at hmir haft HF
  have CA:Hid (∀ W':World,Calls Tryz.prog 155 #[.agg #[.int .i64 a,.int .i64 b,.int .i64 c',.int .i64 d,.int .i64 e,.int .i64 f],.agg #[.int .i64 A,.int .i64 B,.int .i64 C,.int .i64 D,.int .i64 E,.int .i64 F]] W' fun r w'=>r=.returned (.tuple #[.agg #[.int .i64 (dot A B a c'),.int .i64 (dot A B b d),.int .i64 (dot C D a c'),.int .i64 (dot C D b d),.int .i64 (dot A B e f+E),.int .i64 (dot C D e f+F)],.int .i64 0])∧Below W'.heap.size W' w'):=fun W'=>After_yes a b c' d e f A B C D E F W' hmir.1 hm.1 haft.1
  clear hK hl hm hmir haft h1 h2 hzz hv hc hmv
  go_enter Tryz.func129,Tryz.ntmps129
  go_wp2_with (first
   | (go_at_call 68;refine (CK.out _ (by with_reducible exact bl_alloc (bl_alloc (bl_alloc (bl_alloc (bl_refl _)))))).mono ?_;rintro e w2 ⟨rfl,hb⟩;have HB:Hid (Below w.heap.size w w2):=bl_via (bl_alloc (bl_alloc (bl_alloc (bl_alloc (bl_refl _))))) hb;have e0:w2.cell? ⟨w.heap.size+1,0,none⟩=some (.int .i64 p):=cl_kept hb (by simp [go_sem]);have e1:w2.cell? ⟨w.heap.size+1,1,none⟩=some (.int .i64 q):=cl_kept hb (by simp [go_sem]);have e2:w2.cell? ⟨w.heap.size+1,2,none⟩=some (.int .i64 r):=cl_kept hb (by simp [go_sem]);have e3:w2.cell? ⟨w.heap.size+1,3,none⟩=some (.int .i64 s):=cl_kept hb (by simp [go_sem]);have m0:w2.cell? ⟨w.heap.size+1+1,0,none⟩=some (.int .i64 A):=cl_kept hb (by simp [go_sem]);have m1:w2.cell? ⟨w.heap.size+1+1,1,none⟩=some (.int .i64 B):=cl_kept hb (by simp [go_sem]);have m2:w2.cell? ⟨w.heap.size+1+1,2,none⟩=some (.int .i64 C):=cl_kept hb (by simp [go_sem]);have m3:w2.cell? ⟨w.heap.size+1+1,3,none⟩=some (.int .i64 D):=cl_kept hb (by simp [go_sem]);have m4:w2.cell? ⟨w.heap.size+1+1,4,none⟩=some (.int .i64 E):=cl_kept hb (by simp [go_sem]);have m5:w2.cell? ⟨w.heap.size+1+1,5,none⟩=some (.int .i64 F):=cl_kept hb (by simp [go_sem]);have r0:w2.cell? ⟨w.heap.size+1+1+1,0,none⟩=some (.int .i64 0):=cl_kept hb (by simp [go_sem]);have HZ:Hid (∀ o,o<6→w2.cell? ⟨w.heap.size+1+1+1,o,none⟩=some (.int .i64 0)∧w2.frozen? ⟨w.heap.size+1+1+1,o,none⟩=false):=fun o ho=>⟨cl_kept hb (by rcases six_cases ho with rfl | rfl | rfl | rfl | rfl | rfl <;> simp [go_sem]),(hb.frozen (p:=⟨w.heap.size+1+1+1,o,none⟩) (by simp)).trans (by simp [go_sem])⟩;have zw:w.heap.size+1+1+1<w2.heap.size:=World.block_lt_of_cell? _ _ r0;clear hb)
   | (go_at_call 154;refine (CL.out _).mono ?_;rintro e w3 ⟨rfl,hb⟩;have HB3:Hid (Below w2.heap.size w2 w3):=hb;clear hb)
   | (go_at_call 153;refine (CM.out _).mono ?_;rintro e w4 ⟨rfl,hb⟩;have HB4:Hid (Below w2.heap.size w2 w4):=bl_via HB3.out hb;have n0:=cl_kept HB4.out m0;have n1:=cl_kept HB4.out m1;have n2:=cl_kept HB4.out m2;have n3:=cl_kept HB4.out m3;have n4:=cl_kept HB4.out m4;have n5:=cl_kept HB4.out m5;have z4:w.heap.size+1+1<w4.heap.size:=World.block_lt_of_cell? _ _ n0;clear hb)
   | (go_at_call 155;refine (CA.out _).mono ?_;rintro e w5 ⟨rfl,hb⟩;have HB5:Hid (Below w2.heap.size w2 w5):=bl_via (bl_alloc HB4.out) hb;have s0:=cl_kept HB5.out (HZ.out 0 (by omega)).1;have f0:=(HB5.out.frozen (p:=⟨w.heap.size+1+1+1,0,none⟩) zw).trans (HZ.out 0 (by omega)).2;have s1:=cl_kept HB5.out (HZ.out 1 (by omega)).1;have f1:=(HB5.out.frozen (p:=⟨w.heap.size+1+1+1,1,none⟩) zw).trans (HZ.out 1 (by omega)).2;have s2:=cl_kept HB5.out (HZ.out 2 (by omega)).1;have f2:=(HB5.out.frozen (p:=⟨w.heap.size+1+1+1,2,none⟩) zw).trans (HZ.out 2 (by omega)).2;have s3:=cl_kept HB5.out (HZ.out 3 (by omega)).1;have f3:=(HB5.out.frozen (p:=⟨w.heap.size+1+1+1,3,none⟩) zw).trans (HZ.out 3 (by omega)).2;have s4:=cl_kept HB5.out (HZ.out 4 (by omega)).1;have f4:=(HB5.out.frozen (p:=⟨w.heap.size+1+1+1,4,none⟩) zw).trans (HZ.out 4 (by omega)).2;have s5:=cl_kept HB5.out (HZ.out 5 (by omega)).1;have f5:=(HB5.out.frozen (p:=⟨w.heap.size+1+1+1,5,none⟩) zw).trans (HZ.out 5 (by omega)).2;have z5:w.heap.size+1+1+1<w5.heap.size:=World.block_lt_of_cell? _ _ s0;clear hb))
  refine bodyPost_ret (v:=.agg #[.int .i64 (dot A B a c'),.int .i64 (dot A B b d),.int .i64 (dot C D a c'),.int .i64 (dot C D b d),.int .i64 (dot A B e f+E),.int .i64 (dot C D e f+F)]) ?_ rfl ⟨by rw [HF.out];rfl, ?_⟩
  ·simp [results,Tryz.results129,go_sem,s0,s1,s2,s3,s4,s5,World.cell?_alloc_past,z5]
  ·with_reducible repeat (first | exact bl_via HB.out HB5.out | refine bl_set ?_ ?_ | refine bl_alloc ?_)
   all_goals (dsimp only;omega)
open Go.RowKit Go.ChangeMaps
def sameM (a b c d e f A B C D E F:Int):Bool:=decide (a=A∧b=B∧c=C∧d=D∧e=E∧f=F)
theorem eqlM (a b c d e f A B C D E F:Int) (w:World) :
  (binOp .eql 89 (.agg #[.int .i64 a,.int .i64 b,.int .i64 c,.int .i64 d,.int .i64 e,.int .i64 f]) (.agg #[.int .i64 A,.int .i64 B,.int .i64 C,.int .i64 D,.int .i64 E,.int .i64 F])).run Tryz.prog w=.ok (.bool (sameM a b c d e f A B C D E F)) w:=by
 by_cases h1:a=A
 ·subst h1
  by_cases h2:b=B
  ·subst h2
   by_cases h3:c=C
   ·subst h3
    by_cases h4:d=D
    ·subst h4
     by_cases h5:e=E
     ·subst h5
      by_cases h6:f=F
      ·subst h6
       simp [go_sem,sameM]
      ·have e':(f == F)=false:=by simpa using h6
       simp [go_sem,sameM,e',h6]
     ·have e':(e == E)=false:=by simpa using h5
      simp [go_sem,sameM,e',h5]
    ·have e':(d == D)=false:=by simpa using h4
     simp [go_sem,sameM,e',h4]
   ·have e':(c == C)=false:=by simpa using h3
    simp [go_sem,sameM,e',h3]
  ·have e':(b == B)=false:=by simpa using h2
   simp [go_sem,sameM,e',h2]
 ·have e':(a == A)=false:=by simpa using h1
  simp [go_sem,sameM,e',h1]
theorem neqM (a b c d e f A B C D E F:Int) (w:World) :
  (binOp .neq 89 (.agg #[.int .i64 a,.int .i64 b,.int .i64 c,.int .i64 d,.int .i64 e,.int .i64 f]) (.agg #[.int .i64 A,.int .i64 B,.int .i64 C,.int .i64 D,.int .i64 E,.int .i64 F])).run Tryz.prog w=.ok (.bool (!sameM a b c d e f A B C D E F)) w:=by
 by_cases h1:a=A
 ·subst h1
  by_cases h2:b=B
  ·subst h2
   by_cases h3:c=C
   ·subst h3
    by_cases h4:d=D
    ·subst h4
     by_cases h5:e=E
     ·subst h5
      by_cases h6:f=F
      ·subst h6
       simp [go_sem,sameM]
      ·have e':(f == F)=false:=by simpa using h6
       simp [go_sem,sameM,e',h6]
     ·have e':(e == E)=false:=by simpa using h5
      simp [go_sem,sameM,e',h5]
    ·have e':(d == D)=false:=by simpa using h4
     simp [go_sem,sameM,e',h4]
   ·have e':(c == C)=false:=by simpa using h3
    simp [go_sem,sameM,e',h3]
  ·have e':(b == B)=false:=by simpa using h2
   simp [go_sem,sameM,e',h2]
 ·have e':(a == A)=false:=by simpa using h1
  simp [go_sem,sameM,e',h1]
def MCell (w:World) (g i:Nat) (m:M6):Prop:=w.cell? ⟨g,i*6,none⟩=some (.int .i64 m.1)∧w.cell? ⟨g,i*6+1,none⟩=some (.int .i64 m.2.1)∧w.cell? ⟨g,i*6+2,none⟩=some (.int .i64 m.2.2.1)∧w.cell? ⟨g,i*6+3,none⟩=some (.int .i64 m.2.2.2.1)∧w.cell? ⟨g,i*6+4,none⟩=some (.int .i64 m.2.2.2.2.1)∧w.cell? ⟨g,i*6+5,none⟩=some (.int .i64 m.2.2.2.2.2)
def MFree (w:World) (g i:Nat):Prop:=w.frozen? ⟨g,i*6,none⟩=false∧w.frozen? ⟨g,i*6+1,none⟩=false∧w.frozen? ⟨g,i*6+2,none⟩=false∧w.frozen? ⟨g,i*6+3,none⟩=false∧w.frozen? ⟨g,i*6+4,none⟩=false∧w.frozen? ⟨g,i*6+5,none⟩=false
def MRow (w:World) (g n:Nat) (M:Nat→M6):Prop := ∀ i,i<n→MCell w g i (M i)∧MFree w g i
theorem MRow.grown {w w':World} {g n:Nat} {M:Nat→M6} {row:Option Nat} (h:MRow w g n M) (hg:w.grownBy w' row) (hne:some g≠row):MRow w' g n M:=fun i hi=>by
 obtain ⟨⟨a0,a1,a2,a3,a4,a5⟩,f0,f1,f2,f3,f4,f5⟩:=h i hi
 have q:∀ o,w'.frozen? ⟨g,o,none⟩=w.frozen? ⟨g,o,none⟩:=fun o=>World.frozen?_of_block (a:=⟨g,o,none⟩) (hg.block g (World.block_lt_of_cell? _ _ a0) hne)
 exact ⟨⟨hg.cell a0 hne,hg.cell a1 hne,hg.cell a2 hne,hg.cell a3 hne,hg.cell a4 hne,hg.cell a5 hne⟩,(q _).trans f0,(q _).trans f1,(q _).trans f2,(q _).trans f3,(q _).trans f4,(q _).trans f5⟩
theorem MRow.kept {w w':World} {g n:Nat} {M:Nat→M6} (h:MRow w g n M) (hb:Below w.heap.size w w'):MRow w' g n M:=h.grown (bl_grown hb) (by simp)
def set6 (w:World) (g j:Nat) (m:M6):World:=(((((w.setCell ⟨g,j*6,none⟩ (.int .i64 m.1)).setCell ⟨g,j*6+1,none⟩ (.int .i64 m.2.1)).setCell ⟨g,j*6+2,none⟩ (.int .i64 m.2.2.1)).setCell ⟨g,j*6+3,none⟩ (.int .i64 m.2.2.2.1)).setCell ⟨g,j*6+4,none⟩ (.int .i64 m.2.2.2.2.1)).setCell ⟨g,j*6+5,none⟩ (.int .i64 m.2.2.2.2.2)
theorem st_same {w:World} {g k:Nat} {u v:Value} (h:w.cell? ⟨g,k,none⟩=some u):(w.setCell ⟨g,k,none⟩ v).cell? ⟨g,k,none⟩=some v:=World.cell?_setCell_same _ _ _ h
theorem st_else {w:World} {g k k':Nat} {u v:Value} (h:w.cell? ⟨g,k,none⟩=some u) (hne:k≠k'):(w.setCell ⟨g,k',none⟩ v).cell? ⟨g,k,none⟩=some u:=by
 rw [World.cell?_setCell_other _ _ _ _ (by simp <;> omega)]
 exact h
theorem MRow.set6 {w:World} {g n j:Nat} {M:Nat→M6} (h:MRow w g n M) (hj:j<n) (m:M6):MRow (set6 w g j m) g n (fun q=>if q=j then m else M q):=fun i hi=>by
 obtain ⟨⟨a0,a1,a2,a3,a4,a5⟩,hf⟩:=h i hi
 refine ⟨?_,by simpa only [MFree,YtgpjaecgkkgehaaGreatDoor.set6,World.frozen?_setCell] using hf⟩
 by_cases e:i=j
 ·subst e
  simp only [if_true]
  unfold YtgpjaecgkkgehaaGreatDoor.set6
  refine ⟨?_, ?_, ?_, ?_, ?_, ?_⟩
  ·exact st_else (st_else (st_else (st_else (st_else (st_same a0) (by omega)) (by omega)) (by omega)) (by omega)) (by omega)
  ·exact st_else (st_else (st_else (st_else (st_same (st_else a1 (by omega))) (by omega)) (by omega)) (by omega)) (by omega)
  ·exact st_else (st_else (st_else (st_same (st_else (st_else a2 (by omega)) (by omega))) (by omega)) (by omega)) (by omega)
  ·exact st_else (st_else (st_same (st_else (st_else (st_else a3 (by omega)) (by omega)) (by omega))) (by omega)) (by omega)
  ·exact st_else (st_same (st_else (st_else (st_else (st_else a4 (by omega)) (by omega)) (by omega)) (by omega))) (by omega)
  ·exact st_same (st_else (st_else (st_else (st_else (st_else a5 (by omega)) (by omega)) (by omega)) (by omega)) (by omega))
 ·simp only [if_neg e]
  unfold YtgpjaecgkkgehaaGreatDoor.set6
  have q:∀ {o:Nat} {u:Value},w.cell? ⟨g,i*6+o,none⟩=some u→o<6→((((((w.setCell ⟨g,j*6,none⟩ (.int .i64 m.1)).setCell ⟨g,j*6+1,none⟩ (.int .i64 m.2.1)).setCell ⟨g,j*6+2,none⟩ (.int .i64 m.2.2.1)).setCell ⟨g,j*6+3,none⟩ (.int .i64 m.2.2.2.1)).setCell ⟨g,j*6+4,none⟩ (.int .i64 m.2.2.2.2.1)).setCell ⟨g,j*6+5,none⟩ (.int .i64 m.2.2.2.2.2)).cell? ⟨g,i*6+o,none⟩=some u:=fun {o u} hu ho =>
   st_else (st_else (st_else (st_else (st_else (st_else hu (by omega)) (by omega)) (by omega)) (by omega)) (by omega)) (by omega)
  exact ⟨q (o:=0) a0 (by omega),q a1 (by omega),q a2 (by omega),q a3 (by omega),q a4 (by omega),q a5 (by omega)⟩
theorem set6_grown (w:World) (g j:Nat) (m:M6):w.grownBy (set6 w g j m) (some g):=gb_then (gb_then (gb_then (gb_then (gb_then (grown_cell _ _ _ _) (grown_cell _ _ _ _)) (grown_cell _ _ _ _)) (grown_cell _ _ _ _)) (grown_cell _ _ _ _)) (grown_cell _ _ _ _)
theorem made_zero (n k:Nat) (hk:k<n*6):(madeCells #[.int .i64 0,.int .i64 0,.int .i64 0,.int .i64 0,.int .i64 0,.int .i64 0] (n*6)).toList[k]?=some (.int .i64 0):=by
 rw [Array.getElem?_toList]
 unfold madeCells
 have h6:k % 6=0∨k % 6=1∨k % 6=2∨k % 6=3∨k % 6=4∨k % 6=5:=by omega
 rcases h6 with h | h | h | h | h | h <;> simp [hk,h]
theorem maps_made {w:World} {base n g:Nat} (h:w.ownsRow base 89 6 (.slice (some ⟨g,0,none⟩) n n) n (madeCells #[.int .i64 0,.int .i64 0,.int .i64 0,.int .i64 0,.int .i64 0,.int .i64 0] (n*6)).toList):MRow w g n (fun _=>noM):=fun i hi=>by
 have q:∀ k,k<n*6→w.cell? ⟨g,k,none⟩=some (.int .i64 0):=fun k hk=>(h.cellAt k hk).trans (made_zero n k hk)
 have f:∀ k,w.frozen? ⟨g,k,none⟩=false:=fun k=>by
  rcases h.2 with ⟨e1,_⟩ | ⟨b,cap,cur,e1,_,hb,_⟩
  ·simp at e1
  ·simp only [Value.slice.injEq,Option.some.injEq,Addr.mk.injEq] at e1
   obtain ⟨⟨rfl,_⟩,_⟩:=e1
   simp [World.frozen?,hb]
 exact ⟨⟨q _ (by omega),q _ (by omega),q _ (by omega),q _ (by omega),q _ (by omega),q _ (by omega)⟩,f _,f _,f _,f _,f _,f _⟩
theorem inf59:(Tryz.prog.info? 89).map (fun i=>(i.zero,i.size,i.bytes))=some (some (.agg #[.int .i64 0,.int .i64 0,.int .i64 0,.int .i64 0,.int .i64 0,.int .i64 0]),6,48):=by kernel_rfl
open Go.RowKit
theorem cell_any {w w':World} {a:Addr} {u:Value} (hb:Below w.heap.size w w') (h:w.cell? a=some u):w'.cell? a=some u:=(hb.cell (World.block_lt_of_cell? _ _ h)).trans h
theorem inf_ints:(Tryz.prog.info? 3).map (fun i=>(i.zero,i.size,i.bytes))=some (some (.int .i64 0),1,8):=by kernel_rfl
set_option maxRecDepth 100000 in
theorem clone_ints (w:World) (b off m c:Nat) (news:List Value) (hl:news.length=m*1) (hnews:∀ j u,news[j]?=some u→w.cell? ((⟨b,off,none⟩:Addr).add j)=some u) (h1:∀ u∈news,u.oneCell'=true) (hm:m*8≤140737488355328) :
  Calls Tryz.prog 107 #[.slice (some ⟨b,off,none⟩) m c] w fun e w'=>∃ v,e=.returned v∧w'.ownsRow w.heap.size 3 1 v m news∧Below w.heap.size w w':=by
 obtain ⟨ix,hi1,hi2,hi3,hi4⟩:=info_parts inf_ints
 have HI:Hid (Tryz.prog.info? 3=some ix∧ix.zero=some (.int .i64 0)∧ix.size=1∧ix.bytes=8):=⟨hi1,hi2,hi3,hi4⟩
 have HN:Hid (∀ j u,news[j]?=some u→(w.alloc (.cells #[] 3)).cell? ((⟨b,off,none⟩:Addr).add j)=some u):=fun j u hu=>cell_any (bl_alloc (bl_refl _)) (hnews j u hu)
 have HO:Hid (∀ u∈news,u.oneCell'=true):=h1
 have HL:Hid (news.length=m*1):=hl
 have hE:(w.alloc (.cells #[] 3)).ownsRow w.heap.size 3 1 (.slice (some ⟨w.heap.size,0,none⟩) 0 0) 0 []:=⟨by simp,.inr ⟨w.heap.size,0,#[],rfl,Nat.le_refl _,heap_alloc_new w _,Nat.le_refl _,by unfold maxLen;omega,by simp,by simp⟩⟩
 have hnn:∀ (a:Option Addr) (q r:Nat) (W:World),(binOp .eql 22 (.slice a q r) (.slice none 0 0)).run Tryz.prog W=.ok (.bool a.isNone) W:=fun a q r W=>Lib.run_eql_slice_nil W 22 3 a q r 0 0 Tryz.underlying22
 clear hi1 hi2 hi3 hi4 hnews h1 hl
 go_enter Tryz.func107,Tryz.ntmps107
 go_wp2_with (at_builtin;refine wpList_append_own _ rfl (.tmp 5) (.tmp 6) 22 rfl w.heap.size 3 ix (.int .i64 0) 1 8 Tryz.underlying22 HI.out.1 HI.out.2.1 HI.out.2.2.1 HI.out.2.2.2 rfl (by decide) (.slice (some ⟨w.heap.size,0,none⟩) 0 0) 0 [] rfl hE ⟨b,off,none⟩ m c news rfl HL.out HN.out HO.out (by unfold maxLen;omega) (by omega) (by simp) ?grow)
 case grow =>
  intro v' w3 hown hgrow _
  have HF:Hid (w3.ownsRow w.heap.size 3 1 v' m news∧Below w.heap.size w w3):=by
   refine ⟨by simpa using hown, ?_⟩
   have k1:Below w.heap.size w (w.alloc (.cells #[] 3)):=bl_alloc (bl_refl _)
   exact k1.grown hgrow k1.size (fun r e=>by simp [Value.ownBlock] at e;omega)
  clear hown hgrow
  go_wp2
  refine bodyPost_ret (v:=v') (by simp [results,Tryz.results107,go_sem]) rfl ⟨v',rfl,HF.out⟩
set_option maxRecDepth 100000 in
theorem clone_ints_nil (w:World) (c:Nat):Calls Tryz.prog 107 #[.slice none 0 c] w fun e w'=>e=.returned (.slice none 0 0)∧w'=w:=by
 have hnn:∀ (a:Option Addr) (q r:Nat) (W:World),(binOp .eql 22 (.slice a q r) (.slice none 0 0)).run Tryz.prog W=.ok (.bool a.isNone) W:=fun a q r W=>Lib.run_eql_slice_nil W 22 3 a q r 0 0 Tryz.underlying22
 go_enter Tryz.func107,Tryz.ntmps107
 go_wp2
 go_ret
 exact ⟨rfl,rfl⟩
theorem inf_creases:(Tryz.prog.info? 83).map (fun i=>(i.zero,i.size,i.bytes))=some (some (.agg #[.int .i64 0,.int .i64 0,.int .i64 0,.int .i64 0,.int .i64 0]),5,40):=by kernel_rfl
set_option maxRecDepth 100000 in
theorem clone_creases (w:World) (b off m c:Nat) (news:List Value) (hl:news.length=m*5) (hnews:∀ j u,news[j]?=some u→w.cell? ((⟨b,off,none⟩:Addr).add j)=some u) (h1:∀ u∈news,u.oneCell'=true) (hm:m*40≤140737488355328) :
  Calls Tryz.prog 108 #[.slice (some ⟨b,off,none⟩) m c] w fun e w'=>∃ v,e=.returned v∧w'.ownsRow w.heap.size 83 5 v m news∧Below w.heap.size w w':=by
 obtain ⟨ix,hi1,hi2,hi3,hi4⟩:=info_parts inf_creases
 have HI:Hid (Tryz.prog.info? 83=some ix∧ix.zero=some (.agg #[.int .i64 0,.int .i64 0,.int .i64 0,.int .i64 0,.int .i64 0])∧ix.size=5∧ix.bytes=40):=⟨hi1,hi2,hi3,hi4⟩
 have HN:Hid (∀ j u,news[j]?=some u→(w.alloc (.cells #[] 83)).cell? ((⟨b,off,none⟩:Addr).add j)=some u):=fun j u hu=>cell_any (bl_alloc (bl_refl _)) (hnews j u hu)
 have HO:Hid (∀ u∈news,u.oneCell'=true):=h1
 have HL:Hid (news.length=m*5):=hl
 have hE:(w.alloc (.cells #[] 83)).ownsRow w.heap.size 83 5 (.slice (some ⟨w.heap.size,0,none⟩) 0 0) 0 []:=⟨by simp,.inr ⟨w.heap.size,0,#[],rfl,Nat.le_refl _,heap_alloc_new w _,Nat.le_refl _,by unfold maxLen;omega,by simp,by simp⟩⟩
 have hnn:∀ (a:Option Addr) (q r:Nat) (W:World),(binOp .eql 23 (.slice a q r) (.slice none 0 0)).run Tryz.prog W=.ok (.bool a.isNone) W:=fun a q r W=>Lib.run_eql_slice_nil W 23 83 a q r 0 0 Tryz.underlying23
 clear hi1 hi2 hi3 hi4 hnews h1 hl
 go_enter Tryz.func108,Tryz.ntmps108
 go_wp2_with (at_builtin;refine wpList_append_own _ rfl (.tmp 5) (.tmp 6) 23 rfl w.heap.size 83 ix (.agg #[.int .i64 0,.int .i64 0,.int .i64 0,.int .i64 0,.int .i64 0]) 5 40 Tryz.underlying23 HI.out.1 HI.out.2.1 HI.out.2.2.1 HI.out.2.2.2 rfl (by decide) (.slice (some ⟨w.heap.size,0,none⟩) 0 0) 0 [] rfl hE ⟨b,off,none⟩ m c news rfl HL.out HN.out HO.out (by unfold maxLen;omega) (by omega) (by simp) ?grow)
 case grow =>
  intro v' w3 hown hgrow _
  have HF:Hid (w3.ownsRow w.heap.size 83 5 v' m news∧Below w.heap.size w w3):=by
   refine ⟨by simpa using hown, ?_⟩
   have k1:Below w.heap.size w (w.alloc (.cells #[] 83)):=bl_alloc (bl_refl _)
   exact k1.grown hgrow k1.size (fun r e=>by simp [Value.ownBlock] at e;omega)
  clear hown hgrow
  go_wp2
  refine bodyPost_ret (v:=v') (by simp [results,Tryz.results108,go_sem]) rfl ⟨v',rfl,HF.out⟩
set_option maxRecDepth 100000 in
theorem clone_creases_nil (w:World) (c:Nat):Calls Tryz.prog 108 #[.slice none 0 c] w fun e w'=>e=.returned (.slice none 0 0)∧w'=w:=by
 have hnn:∀ (a:Option Addr) (q r:Nat) (W:World),(binOp .eql 23 (.slice a q r) (.slice none 0 0)).run Tryz.prog W=.ok (.bool a.isNone) W:=fun a q r W=>Lib.run_eql_slice_nil W 23 83 a q r 0 0 Tryz.underlying23
 go_enter Tryz.func108,Tryz.ntmps108
 go_wp2
 go_ret
 exact ⟨rfl,rfl⟩
theorem inf_maps:(Tryz.prog.info? 89).map (fun i=>(i.zero,i.size,i.bytes))=some (some (.agg #[.int .i64 0,.int .i64 0,.int .i64 0,.int .i64 0,.int .i64 0,.int .i64 0]),6,48):=by kernel_rfl
set_option maxRecDepth 100000 in
theorem clone_maps (w:World) (b off m c:Nat) (news:List Value) (hl:news.length=m*6) (hnews:∀ j u,news[j]?=some u→w.cell? ((⟨b,off,none⟩:Addr).add j)=some u) (h1:∀ u∈news,u.oneCell'=true) (hm:m*48≤140737488355328) :
  Calls Tryz.prog 73 #[.slice (some ⟨b,off,none⟩) m c] w fun e w'=>∃ v,e=.returned v∧w'.ownsRow w.heap.size 89 6 v m news∧Below w.heap.size w w':=by
 obtain ⟨ix,hi1,hi2,hi3,hi4⟩:=info_parts inf_maps
 have HI:Hid (Tryz.prog.info? 89=some ix∧ix.zero=some (.agg #[.int .i64 0,.int .i64 0,.int .i64 0,.int .i64 0,.int .i64 0,.int .i64 0])∧ix.size=6∧ix.bytes=48):=⟨hi1,hi2,hi3,hi4⟩
 have HN:Hid (∀ j u,news[j]?=some u→(w.alloc (.cells #[] 89)).cell? ((⟨b,off,none⟩:Addr).add j)=some u):=fun j u hu=>cell_any (bl_alloc (bl_refl _)) (hnews j u hu)
 have HO:Hid (∀ u∈news,u.oneCell'=true):=h1
 have HL:Hid (news.length=m*6):=hl
 have hE:(w.alloc (.cells #[] 89)).ownsRow w.heap.size 89 6 (.slice (some ⟨w.heap.size,0,none⟩) 0 0) 0 []:=⟨by simp,.inr ⟨w.heap.size,0,#[],rfl,Nat.le_refl _,heap_alloc_new w _,Nat.le_refl _,by unfold maxLen;omega,by simp,by simp⟩⟩
 have hnn:∀ (a:Option Addr) (q r:Nat) (W:World),(binOp .eql 26 (.slice a q r) (.slice none 0 0)).run Tryz.prog W=.ok (.bool a.isNone) W:=fun a q r W=>Lib.run_eql_slice_nil W 26 89 a q r 0 0 Tryz.underlying26
 clear hi1 hi2 hi3 hi4 hnews h1 hl
 go_enter Tryz.func73,Tryz.ntmps73
 go_wp2_with (at_builtin;refine wpList_append_own _ rfl (.tmp 5) (.tmp 6) 26 rfl w.heap.size 89 ix (.agg #[.int .i64 0,.int .i64 0,.int .i64 0,.int .i64 0,.int .i64 0,.int .i64 0]) 6 48 Tryz.underlying26 HI.out.1 HI.out.2.1 HI.out.2.2.1 HI.out.2.2.2 rfl (by decide) (.slice (some ⟨w.heap.size,0,none⟩) 0 0) 0 [] rfl hE ⟨b,off,none⟩ m c news rfl HL.out HN.out HO.out (by unfold maxLen;omega) (by omega) (by simp) ?grow)
 case grow =>
  intro v' w3 hown hgrow _
  have HF:Hid (w3.ownsRow w.heap.size 89 6 v' m news∧Below w.heap.size w w3):=by
   refine ⟨by simpa using hown, ?_⟩
   have k1:Below w.heap.size w (w.alloc (.cells #[] 89)):=bl_alloc (bl_refl _)
   exact k1.grown hgrow k1.size (fun r e=>by simp [Value.ownBlock] at e;omega)
  clear hown hgrow
  go_wp2
  refine bodyPost_ret (v:=v') (by simp [results,Tryz.results73,go_sem]) rfl ⟨v',rfl,HF.out⟩
end Go.Proofs.YtgpjaecgkkgehaaGreatDoor
