/- A part of the proof of stackLays_holds. -/
import Derived.Test.YtgpjaecgkkgehaaGreatDoorQlay
import Derived.Test.YtgpjaecgkkgehaaGreatDoorQlav
import Derived.Test.YtgpjaecgkkgehaaGreatDoorQlad
import Derived.Test.YtgpjaecgkkgehaaGreatDoorQlau
import Derived.Sort.Lot0
import Derived.Sort.LotA
set_option maxRecDepth 100000
set_option maxHeartbeats 40000000
namespace Go.Proofs.YtgpjaecgkkgehaaGreatDoor
open Go.RowKit Go.ChangeMaps
def sameM (a b c d e f A B C D E F:Int):Bool:=decide (a=A∧b=B∧c=C∧d=D∧e=E∧f=F)
theorem eqlM (a b c d e f A B C D E F:Int) (w:World) :
  (binOp .eql 89 (.agg #[.int .i64 a,.int .i64 b,.int .i64 c,.int .i64 d,.int .i64 e,.int .i64 f]) (.agg #[.int .i64 A,.int .i64 B,.int .i64 C,.int .i64 D,.int .i64 E,.int .i64 F])).run Tryz.prog w=.ok (.bool (sameM a b c d e f A B C D E F)) w:=by
 by_cases h1:a=A
 ·subst h1
  by_cases h2:b=B
  ·subst h2
   by_cases h3:c=C
   ·subst h3
    by_cases h4:d=D
    ·subst h4
     by_cases h5:e=E
     ·subst h5
      by_cases h6:f=F
      ·subst h6
       simp [go_sem,sameM]
      ·have e':(f == F)=false:=by simpa using h6
       simp [go_sem,sameM,e',h6]
     ·have e':(e == E)=false:=by simpa using h5
      simp [go_sem,sameM,e',h5]
    ·have e':(d == D)=false:=by simpa using h4
     simp [go_sem,sameM,e',h4]
   ·have e':(c == C)=false:=by simpa using h3
    simp [go_sem,sameM,e',h3]
  ·have e':(b == B)=false:=by simpa using h2
   simp [go_sem,sameM,e',h2]
 ·have e':(a == A)=false:=by simpa using h1
  simp [go_sem,sameM,e',h1]
theorem neqM (a b c d e f A B C D E F:Int) (w:World) :
  (binOp .neq 89 (.agg #[.int .i64 a,.int .i64 b,.int .i64 c,.int .i64 d,.int .i64 e,.int .i64 f]) (.agg #[.int .i64 A,.int .i64 B,.int .i64 C,.int .i64 D,.int .i64 E,.int .i64 F])).run Tryz.prog w=.ok (.bool (!sameM a b c d e f A B C D E F)) w:=by
 by_cases h1:a=A
 ·subst h1
  by_cases h2:b=B
  ·subst h2
   by_cases h3:c=C
   ·subst h3
    by_cases h4:d=D
    ·subst h4
     by_cases h5:e=E
     ·subst h5
      by_cases h6:f=F
      ·subst h6
       simp [go_sem,sameM]
      ·have e':(f == F)=false:=by simpa using h6
       simp [go_sem,sameM,e',h6]
     ·have e':(e == E)=false:=by simpa using h5
      simp [go_sem,sameM,e',h5]
    ·have e':(d == D)=false:=by simpa using h4
     simp [go_sem,sameM,e',h4]
   ·have e':(c == C)=false:=by simpa using h3
    simp [go_sem,sameM,e',h3]
  ·have e':(b == B)=false:=by simpa using h2
   simp [go_sem,sameM,e',h2]
 ·have e':(a == A)=false:=by simpa using h1
  simp [go_sem,sameM,e',h1]
def MCell (w:World) (g i:Nat) (m:M6):Prop:=w.cell? ⟨g,i*6,none⟩=some (.int .i64 m.1)∧w.cell? ⟨g,i*6+1,none⟩=some (.int .i64 m.2.1)∧w.cell? ⟨g,i*6+2,none⟩=some (.int .i64 m.2.2.1)∧w.cell? ⟨g,i*6+3,none⟩=some (.int .i64 m.2.2.2.1)∧w.cell? ⟨g,i*6+4,none⟩=some (.int .i64 m.2.2.2.2.1)∧w.cell? ⟨g,i*6+5,none⟩=some (.int .i64 m.2.2.2.2.2)
def MFree (w:World) (g i:Nat):Prop:=w.frozen? ⟨g,i*6,none⟩=false∧w.frozen? ⟨g,i*6+1,none⟩=false∧w.frozen? ⟨g,i*6+2,none⟩=false∧w.frozen? ⟨g,i*6+3,none⟩=false∧w.frozen? ⟨g,i*6+4,none⟩=false∧w.frozen? ⟨g,i*6+5,none⟩=false
def MRow (w:World) (g n:Nat) (M:Nat→M6):Prop := ∀i,i<n→MCell w g i (M i)∧MFree w g i
theorem MRow.grown {w w':World} {g n:Nat} {M:Nat→M6} {row:Option Nat} (h:MRow w g n M) (hg:w.grownBy w' row) (hne:some g≠row):MRow w' g n M:=fun i hi=>by
 obtain ⟨⟨a0,a1,a2,a3,a4,a5⟩,f0,f1,f2,f3,f4,f5⟩:=h i hi
 have q:∀o,w'.frozen? ⟨g,o,none⟩=w.frozen? ⟨g,o,none⟩:=fun o=>World.frozen?_of_block (a:=⟨g,o,none⟩) (hg.block g (bk a0) hne)
 exact ⟨⟨hg.cell a0 hne,hg.cell a1 hne,hg.cell a2 hne,hg.cell a3 hne,hg.cell a4 hne,hg.cell a5 hne⟩,(q _).trans f0,(q _).trans f1,(q _).trans f2,(q _).trans f3,(q _).trans f4,(q _).trans f5⟩
theorem MRow.kept {w w':World} {g n:Nat} {M:Nat→M6} (h:MRow w g n M) (hb:Bl w w'):MRow w' g n M:=h.grown (Qw hb) (by simp)
def set6 (w:World) (g j:Nat) (m:M6):World:=(((((w.setCell ⟨g,j*6,none⟩ (.int .i64 m.1)).setCell ⟨g,j*6+1,none⟩ (.int .i64 m.2.1)).setCell ⟨g,j*6+2,none⟩ (.int .i64 m.2.2.1)).setCell ⟨g,j*6+3,none⟩ (.int .i64 m.2.2.2.1)).setCell ⟨g,j*6+4,none⟩ (.int .i64 m.2.2.2.2.1)).setCell ⟨g,j*6+5,none⟩ (.int .i64 m.2.2.2.2.2)
theorem Q8 {w:World} {g k:Nat} {u v:Value} (h:w.cell? ⟨g,k,none⟩=some u):(w.setCell ⟨g,k,none⟩ v).cell? ⟨g,k,none⟩=some v:=World.cell?_setCell_same _ _ _ h
theorem Qp {w:World} {g k k':Nat} {u v:Value} (h:w.cell? ⟨g,k,none⟩=some u) (hne:k≠k'):(w.setCell ⟨g,k',none⟩ v).cell? ⟨g,k,none⟩=some u:=by
 rw [World.cell?_setCell_other _ _ _ _ (by simp<;>omega)]
 exact h
theorem MRow.set6 {w:World} {g n j:Nat} {M:Nat→M6} (h:MRow w g n M) (hj:j<n) (m:M6):MRow (set6 w g j m) g n (fun q=>if q=j then m else M q):=fun i hi=>by
 obtain ⟨⟨a0,a1,a2,a3,a4,a5⟩,hf⟩:=h i hi
 refine ⟨?_,by simpa only [MFree,YtgpjaecgkkgehaaGreatDoor.set6,World.frozen?_setCell] using hf⟩
 by_cases e:i=j
 ·subst e
  simp only [if_true]
  unfold YtgpjaecgkkgehaaGreatDoor.set6
  refine ⟨?_,?_,?_,?_,?_,?_⟩
  ·exact Qp (Qp (Qp (Qp (Qp (Q8 a0) (by omega)) (by omega)) (by omega)) (by omega)) (by omega)
  ·exact Qp (Qp (Qp (Qp (Q8 (Qp a1 (by omega))) (by omega)) (by omega)) (by omega)) (by omega)
  ·exact Qp (Qp (Qp (Q8 (Qp (Qp a2 (by omega)) (by omega))) (by omega)) (by omega)) (by omega)
  ·exact Qp (Qp (Q8 (Qp (Qp (Qp a3 (by omega)) (by omega)) (by omega))) (by omega)) (by omega)
  ·exact Qp (Q8 (Qp (Qp (Qp (Qp a4 (by omega)) (by omega)) (by omega)) (by omega))) (by omega)
  ·exact Q8 (Qp (Qp (Qp (Qp (Qp a5 (by omega)) (by omega)) (by omega)) (by omega)) (by omega))
 ·simp only [if_neg e]
  unfold YtgpjaecgkkgehaaGreatDoor.set6
  have q:∀{o:Nat} {u:Value},w.cell? ⟨g,i*6+o,none⟩=some u→o<6→((((((w.setCell ⟨g,j*6,none⟩ (.int .i64 m.1)).setCell ⟨g,j*6+1,none⟩ (.int .i64 m.2.1)).setCell ⟨g,j*6+2,none⟩ (.int .i64 m.2.2.1)).setCell ⟨g,j*6+3,none⟩ (.int .i64 m.2.2.2.1)).setCell ⟨g,j*6+4,none⟩ (.int .i64 m.2.2.2.2.1)).setCell ⟨g,j*6+5,none⟩ (.int .i64 m.2.2.2.2.2)).cell? ⟨g,i*6+o,none⟩=some u:=fun {o u} hu ho =>
   Qp (Qp (Qp (Qp (Qp (Qp hu (by omega)) (by omega)) (by omega)) (by omega)) (by omega)) (by omega)
  exact ⟨q (o:=0) a0 (by omega),q a1 (by omega),q a2 (by omega),q a3 (by omega),q a4 (by omega),q a5 (by omega)⟩
theorem Jc (w:World) (g j:Nat) (m:M6):w.grownBy (set6 w g j m) (some g):=Qy (Qy (Qy (Qy (Qy (Qm _ _ _ _) (Qm _ _ _ _)) (Qm _ _ _ _)) (Qm _ _ _ _)) (Qm _ _ _ _)) (Qm _ _ _ _)
theorem made_zero (n k:Nat) (hk:k<n*6):(madeCells #[.int .i64 0,.int .i64 0,.int .i64 0,.int .i64 0,.int .i64 0,.int .i64 0] (n*6)).toList[k]?=some (.int .i64 0):=by
 rw [Array.getElem?_toList]
 unfold madeCells
 have h6:k % 6=0∨k % 6=1∨k % 6=2∨k % 6=3∨k % 6=4∨k % 6=5:=by omega
 rcases h6 with h|h|h|h|h|h<;>simp [hk,h]
theorem maps_made {w:World} {base n g:Nat} (h:w.ownsRow base 89 6 (.slice (some ⟨g,0,none⟩) n n) n (madeCells #[.int .i64 0,.int .i64 0,.int .i64 0,.int .i64 0,.int .i64 0,.int .i64 0] (n*6)).toList):MRow w g n (fun _=>noM):=fun i hi=>by
 have q:∀k,k<n*6→w.cell? ⟨g,k,none⟩=some (.int .i64 0):=fun k hk=>(h.cellAt k hk).trans (made_zero n k hk)
 have f:∀k,w.frozen? ⟨g,k,none⟩=false:=fun k=>by
  rcases h.2 with ⟨e1,_⟩|⟨b,cap,cur,e1,_,hb,_⟩
  ·simp at e1
  ·simp only [Value.slice.injEq,Option.some.injEq,Addr.mk.injEq] at e1
   obtain ⟨⟨rfl,_⟩,_⟩:=e1
   simp [World.frozen?,hb]
 exact ⟨⟨q _ (by omega),q _ (by omega),q _ (by omega),q _ (by omega),q _ (by omega),q _ (by omega)⟩,f _,f _,f _,f _,f _,f _⟩
theorem inf59:(Tryz.prog.info? 89).map (fun i=>(i.zero,i.size,i.bytes))=some (some (.agg #[.int .i64 0,.int .i64 0,.int .i64 0,.int .i64 0,.int .i64 0,.int .i64 0]),6,48):=by kernel_rfl
end Go.Proofs.YtgpjaecgkkgehaaGreatDoor
namespace Go.Proofs.YtgpjaecgkkgehaaGreatDoor
open Go.RowKit
structure SrtW (w wx:World) (g o:Nat) (d:Array Nat):Prop where
 row:∀j,j<d.size→wx.cell? ⟨g,o+j,none⟩=some (.int .i64 ((d[j]! : Nat):Int))∧wx.frozen? ⟨g,o+j,none⟩=false
 gr:w.grownBy wx (some g)
 lt:g<wx.heap.size
theorem SrtW.kept {w wx w':World} {g o:Nat} {d:Array Nat} (h:SrtW w wx g o d) (hb:Bl wx w'):SrtW w w' g o d :=
 ⟨fun j hj=>⟨Qa hb (h.row j hj).1,(hb.frozen h.lt).trans (h.row j hj).2⟩,Qy h.gr (by
  have:=Qw hb
  exact ⟨this.os,this.tape,this.output,this.size,fun k hk _=>this.block k hk (by simp)⟩),Nat.lt_of_lt_of_le h.lt hb.size⟩
theorem SrtW.swap {w wx:World} {g o:Nat} {d:Array Nat} (h:SrtW w wx g o d) {i j:Nat} (hi:i<d.size) (hj:j<d.size) (hij:i≠j):SrtW w ((wx.setCell ⟨g,o+i,none⟩ (.int .i64 ((d[j]! : Nat):Int))).setCell ⟨g,o+j,none⟩ (.int .i64 ((d[i]! : Nat):Int))) g o (Sort.swp d i j):=by
 have g1:=Qm wx g (o+i) (.int .i64 ((d[j]! : Nat):Int))
 have g2:=Qm (wx.setCell ⟨g,o+i,none⟩ (.int .i64 ((d[j]! : Nat):Int))) g (o+j) (.int .i64 ((d[i]! : Nat):Int))
 refine ⟨fun k hk=>?_,Qy h.gr (Qy g1 g2),Nat.lt_of_lt_of_le h.lt (Nat.le_trans g1.size g2.size)⟩
 rw [Sort.size_swp] at hk
 obtain ⟨r1,r2⟩:=h.row k hk
 obtain ⟨q1,_⟩:=h.row i hi
 obtain ⟨p1,_⟩:=h.row j hj
 constructor
 ·have e:=Sort.swp_get d hi hj k
  rw [e]
  by_cases e1:k=j
  ·rw [if_pos e1,e1]
   exact Q8 (Qp p1 (by omega))
  ·rw [if_neg e1]
   by_cases e2:k=i
   ·rw [if_pos e2,e2]
    exact Qp (Q8 q1) (by omega)
   ·rw [if_neg e2]
    exact Qp (Qp r1 (by omega)) (by omega)
 ·simp [go_sem,r2]
def CmpF (w:World) (g N:Nat) (rv:Value) (cf:Nat→Nat→Int):Prop := ∀wx:World,w.grownBy wx (some g)→∀x y:Nat,x<N→y<N→Calls Tryz.prog 111 #[rv,.int .i64 (x:Int),.int .i64 (y:Int)] wx fun e w'=>e=.returned (.int .i64 (cf x y))∧Bl wx w'
theorem Jb {d:Array Nat} {N i j:Nat} (h:∀k,k<d.size→d[k]! < N) (hi:i<d.size) (hj:j<d.size):∀k,k<(Sort.swp d i j).size→(Sort.swp d i j)[k]! < N:=fun k hk=>by
 rw [Sort.size_swp] at hk
 rw [Sort.swp_get d hi hj k]
 split
 ·exact h i hi
 ·split
  ·exact h j hj
  ·exact h k hk
def ltF (cf:Nat→Nat→Int) (x y:Nat):Bool:=decide (cf x y<0)
theorem insertion_any (w:World) (g o n cap a b N:Nat) (rv:Value) (cf:Nat→Nat→Int) (hc:CmpF w g N rv cf) (d:Array Nat) (hd:d.size=n) (hN:∀k,k<d.size→d[k]! < N) (hab:a≤b) (hbn:b≤n) (hn:n≤300) (w1:World) (hw:SrtW w w1 g o d) :
  Calls Tryz.prog 176 #[.slice (some ⟨g,o,none⟩) n cap,.int .i64 (a:Int),.int .i64 (b:Int),.func (.func 111) #[rv] #[]] w1 fun e w'=>e=.returned (.tuple #[])∧SrtW w w' g o (Sort.insertionSort (ltF cf) d a b):=by
 have HC:Hid (CmpF w g N rv cf):=hc
 have HW:Hid (SrtW w w1 g o d∧(∀k,k<d.size→d[k]! < N)∧d.size=n):=⟨hw,hN,hd⟩
 obtain ⟨T,hT⟩:∃T,T=Sort.insertionSort (ltF cf) d a b:=⟨_,rfl⟩
 have HT:Hid (Sort.insOuter (ltF cf) a b (a+1) d=T):=hT.symm
 rw [←hT]
 clear hc hw hN hd hT
 go_enter Tryz.func176,Tryz.ntmps176
 go_wp2
 go_loopg [8] (b+1-(a+1)) (fun gk s8 wx=>∃(i:Nat) (d1:Array Nat),i≤b+1∧a+1≤i∧gk=b+1-i∧s8=.int .i64 (i:Int)∧SrtW w wx g o d1∧(∀k,k<d1.size→d1[k]! < N)∧d1.size=n∧Sort.insOuter (ltF cf) a b i d1=T)
 case atStart=>exact ⟨a+1,d,by omega,by omega,rfl,by go_num,HW.out.1,HW.out.2.1,HW.out.2.2,HT.out⟩
 case round =>
  obtain ⟨i,d1,hi,hai,rfl,rfl,hS,hN1,hd1,hT1⟩:=hrel
  have HS:Hid (SrtW w wr g o d1∧(∀k,k<d1.size→d1[k]! < N)∧d1.size=n∧Sort.insOuter (ltF cf) a b i d1=T):=⟨hS,hN1,hd1,hT1⟩
  clear hS hN1 hd1 hT1
  by_cases h1:i<b
  ·have i1:(i:Int)<(b:Int):=by omega
   go_wp2
   go_loopg [9] i (fun gk s9 wx=>∃(j:Nat) (d2:Array Nat),j≤i∧j=gk∧s9=.int .i64 (j:Int)∧SrtW w wx g o d2∧(∀k,k<d2.size→d2[k]! < N)∧d2.size=n∧Sort.insInner (ltF cf) a j d2=Sort.insInner (ltF cf) a i d1)
   case atStart=>exact ⟨i,d1,by omega,rfl,rfl,HS.out.1,HS.out.2.1,HS.out.2.2.1,rfl⟩
   case round =>
    obtain ⟨j,d2,hj,rfl,rfl,hS2,hN2,hd2,hI⟩:=hrel
    have H2:Hid (SrtW w wr g o d2∧(∀k,k<d2.size→d2[k]! < N)∧d2.size=n∧Sort.insInner (ltF cf) a j d2=Sort.insInner (ltF cf) a i d1):=⟨hS2,hN2,hd2,hI⟩
    have HO:Hid (Sort.insOuter (ltF cf) a b (i+1) (Sort.insInner (ltF cf) a i d1)=T):=by
     have:Sort.insOuter (ltF cf) a b (i+1) (Sort.insInner (ltF cf) a i d1)=T:=by
      rw [←HS.out.2.2.2]
      conv=>rhs;rw [Sort.insOuter,if_pos h1]
     exact this
    clear HS hS2 hN2 hd2 hI
    by_cases h2:a<j
    ·obtain ⟨p,rfl⟩:∃p,j=p+1:=⟨j - 1,by omega⟩
     have hs2:=H2.out.2.2.1
     obtain ⟨r1,f1⟩:=H2.out.1.row (p+1) (by omega)
     obtain ⟨r0,f0⟩:=H2.out.1.row p (by omega)
     have l1:=H2.out.2.1 (p+1) (by omega)
     have l0:=H2.out.2.1 p (by omega)
     have zg:=H2.out.1.lt
     have HI:Hid (Sort.insInner (ltF cf) a (p+1) d2=if ltF cf d2[p+1]! d2[p]! = true then Sort.insInner (ltF cf) a p (Sort.swp d2 (p+1) p) else d2):=by
      have:Sort.insInner (ltF cf) a (p+1) d2=if ltF cf d2[p+1]! d2[p]! = true then Sort.insInner (ltF cf) a p (Sort.swp d2 (p+1) p) else d2:=by
       rw [Sort.insInner]
       have:decide (p+1 > a)=true:=by simpa using h2
       rw [this,Bool.true_and]
      exact this
     obtain ⟨x,hx⟩:∃x,x=d2[p+1]!:=⟨_,rfl⟩
     obtain ⟨y,hy⟩:∃y,y=d2[p]!:=⟨_,rfl⟩
     rw [←hx] at r1 l1 HI
     rw [←hy] at r0 l0 HI
     have HXY:Hid (x=d2[p+1]! ∧ y=d2[p]!):=⟨hx,hy⟩
     have CB:Hid (∀W:World,Bl wr W→Calls Tryz.prog 111 #[rv,.int .i64 (x:Int),.int .i64 (y:Int)] W fun e w'=>e=.returned (.int .i64 (cf x y))∧Bl W w'):=fun W hW=>HC.out W (H2.out.1.kept hW).gr x y l1 l0
     obtain ⟨c,hcv⟩:∃c,c=cf x y:=⟨_,rfl⟩
     have HLT:Hid (ltF cf x y=decide (c<0)):=by
      have:ltF cf x y=decide (c<0):=by rw [hcv];rfl
      exact this
     rw [←hcv] at CB
     have j1:(a:Int)<(p:Int)+1:=by omega
     have e1:(p:Int)+1 - 1=(p:Int):=by omega
     have w1':IntKind.i64.wrap ((p:Int)+1 - 1)=(p:Int):=by rw [IntKind.wrap_i64];omega
     have w2':IntKind.i64.wrap (p:Int)=(p:Int):=by rw [IntKind.wrap_i64];omega
     have i2:(p:Int)+1<(n:Int):=by omega
     have i3:(p:Int)<(n:Int):=by omega
     have k2:(0:Int)≤(p:Int)+1:=by omega
     have k3:(0:Int)≤(p:Int):=by omega
     clear hx hy hcv l1 l0
     by_cases q:c<0
     ·go_wp2
      have kc:=Kin.cells wr
      have kn:Nonempty (Kin wr):=⟨⟨wr,Qc _⟩⟩
      refine Qg (by kernel_rfl) (by kernel_rfl) ?_
      repeat (go_big_quiet_step ((go_at_call 111;exact Qo (CB.out _ (Kin.h _)))))
      refine wpQuiet_nil ?_
      intro wq hw'
      obtain ⟨nq,hw''⟩:=hw'
      have hq:Bl wr wq:=hw'' ▸ nq.h
      clear hw'' nq kc kn
      replace r1:=Qa hq r1
      replace r0:=Qa hq r0
      replace f1:=(hq.frozen zg).trans f1
      replace f0:=(hq.frozen zg).trans f0
      have zq:g<wq.heap.size:=Nat.lt_of_lt_of_le zg hq.size
      have HQ:Hid (SrtW w wq g o d2):=H2.out.1.kept hq
      clear hq CB
      go_wp2
      go_region
      all_goals
       go_wp2
       go_roundg p
       case measure=>omega
       case rel =>
        have hsw:=HQ.out.swap (i:=p+1) (j:=p) (by omega) (by omega) (by omega)
        rw [←HXY.out.1,←HXY.out.2] at hsw
        refine ⟨p,Sort.swp d2 (p+1) p,by omega,rfl,by go_num,hsw.kept (Qf (Qc _)),Jb H2.out.2.1 (by omega) (by omega),by rw [Sort.size_swp];exact H2.out.2.2.1,?_⟩
        rw [←H2.out.2.2.2,HI.out,HLT.out,if_pos (by simpa using q)]
     ·go_wp2
      have kc:=Kin.cells wr
      have kn:Nonempty (Kin wr):=⟨⟨wr,Qc _⟩⟩
      refine Qg (by kernel_rfl) (by kernel_rfl) ?_
      repeat (go_big_quiet_step ((go_at_call 111;exact Qo (CB.out _ (Kin.h _)))))
      refine wpQuiet_nil ?_
      intro wq hw'
      obtain ⟨nq,hw''⟩:=hw'
      have hq:Bl wr wq:=hw'' ▸ nq.h
      clear hw'' nq kc kn r1 r0 f1 f0
      have HD:Hid (Sort.insInner (ltF cf) a i d1=d2):=by
       have:Sort.insInner (ltF cf) a i d1=d2:=by
        rw [←H2.out.2.2.2,HI.out,HLT.out,if_neg (by simpa using q)]
       exact this
      go_wp2
      go_roundg (b+1-(i+1))
      case measure=>omega
      case rel=>exact ⟨i+1,d2,by omega,by omega,rfl,by go_num,H2.out.1.kept hq,H2.out.2.1,H2.out.2.2.1,by rw [←HD.out];exact HO.out⟩
    ·have j1:¬(a:Int)<(j:Int):=by omega
     have HD:Hid (Sort.insInner (ltF cf) a i d1=d2):=by
      have:Sort.insInner (ltF cf) a i d1=d2:=by
       rw [←H2.out.2.2.2]
       cases j with
       | zero=>rfl
       | succ p =>
        rw [Sort.insInner]
        have:decide (p+1 > a)=false:=by simpa using h2
        rw [this,Bool.false_and,if_neg (by simp)]
      exact this
     go_wp2
     have kc:=Kin.cells wr
     have kn:Nonempty (Kin wr):=⟨⟨wr,Qc _⟩⟩
     refine Qg (by kernel_rfl) (by kernel_rfl) ?_
     repeat (go_big_quiet_step (fail))
     refine wpQuiet_nil ?_
     intro wq hw'
     obtain ⟨nq,hw''⟩:=hw'
     have hq:Bl wr wq:=hw'' ▸ nq.h
     clear hw'' nq kc kn
     go_wp2
     go_roundg (b+1-(i+1))
     case measure=>omega
     case rel=>exact ⟨i+1,d2,by omega,by omega,rfl,by go_num,H2.out.1.kept hq,H2.out.2.1,H2.out.2.2.1,by rw [←HD.out];exact HO.out⟩
  ·have i1:¬(i:Int)<(b:Int):=by omega
   have HE:Hid (d1=T):=by
    have:d1=T:=by
     rw [←HS.out.2.2.2,Sort.insOuter,if_neg h1]
    exact this
   go_wp2
   go_end0
   exact ⟨rfl,HE.out ▸ HS.out.1⟩
structure SwpW (w wx:World) (g o:Nat) (d:Array Nat) (sb s:Nat):Prop where
 r:SrtW w wx g o d
 c:wx.cell? ⟨sb,0,none⟩=some (.int .i64 (s:Int))
 f:wx.frozen? ⟨sb,0,none⟩=false
 low:w.heap.size≤sb
 ne:sb≠g
theorem SwpW.lt {w wx:World} {g o:Nat} {d:Array Nat} {sb s:Nat} (h:SwpW w wx g o d sb s):sb<wx.heap.size:=bk h.c
theorem SwpW.kept {w wx w':World} {g o:Nat} {d:Array Nat} {sb s:Nat} (h:SwpW w wx g o d sb s) (hb:Bl wx w'):SwpW w w' g o d sb s:=⟨h.r.kept hb,Qa hb h.c,(hb.frozen h.lt).trans h.f,h.low,h.ne⟩
theorem SwpW.put {w wx:World} {g o:Nat} {d:Array Nat} {sb s:Nat} (h:SwpW w wx g o d sb s) (t:Nat):SwpW w (wx.setCell ⟨sb,0,none⟩ (.int .i64 (t:Int))) g o d sb t:=by
 have g1:=Qm wx sb 0 (.int .i64 (t:Int))
 have hne:some g≠some sb:=fun e=>h.ne (by cases e;rfl)
 refine ⟨⟨fun j hj=>⟨g1.cell (h.r.row j hj).1 hne,(World.frozen?_of_block (a:=⟨g,o+j,none⟩) (g1.block g h.r.lt hne)).trans (h.r.row j hj).2⟩,?_,Nat.lt_of_lt_of_le h.r.lt g1.size⟩,Q8 h.c,by simp [go_sem,h.f],h.low,h.ne⟩
 have a:=h.r.gr
 exact ⟨g1.os.trans a.os,g1.tape.trans a.tape,g1.output.trans a.output,Nat.le_trans a.size g1.size,fun k hk hkg=>(g1.block k (Nat.lt_of_lt_of_le hk a.size) (fun e=>by cases e;have:=h.low;omega)).trans (a.block k hk hkg)⟩
theorem order2_any (w:World) (g o n cap a b N sb s:Nat) (rv:Value) (cf:Nat→Nat→Int) (hc:CmpF w g N rv cf) (d:Array Nat) (hd:d.size=n) (hN:∀k,k<d.size→d[k]! < N) (ha:a<n) (hb:b<n) (_hn:n≤300) (hs:s≤100) (w1:World) (hw:SwpW w w1 g o d sb s) :
  Calls Tryz.prog 214 #[.slice (some ⟨g,o,none⟩) n cap,.int .i64 (a:Int),.int .i64 (b:Int),.pointer (some ⟨sb,0,none⟩),.func (.func 111) #[rv] #[]] w1 fun e w'=>e=.returned (.tuple #[.int .i64 ((Sort.order2 (ltF cf) d a b s).1:Int),.int .i64 ((Sort.order2 (ltF cf) d a b s).2.1:Int)])∧SwpW w w' g o d sb (Sort.order2 (ltF cf) d a b s).2.2:=by
 obtain ⟨r1,_⟩:=hw.r.row b (by omega)
 obtain ⟨r0,_⟩:=hw.r.row a (by omega)
 have l1:=hN b (by omega)
 have l0:=hN a (by omega)
 have zg:=hw.r.lt
 have HW:Hid (SwpW w w1 g o d sb s):=hw
 have HE:Hid (Sort.order2 (ltF cf) d a b s=if ltF cf d[b]! d[a]! = true then (b,a,s+1) else (a,b,s)):=rfl
 obtain ⟨x,hx⟩:∃x,x=d[b]!:=⟨_,rfl⟩
 obtain ⟨y,hy⟩:∃y,y=d[a]!:=⟨_,rfl⟩
 rw [←hx] at r1 l1 HE
 rw [←hy] at r0 l0 HE
 have CB:Hid (∀W:World,Bl w1 W→Calls Tryz.prog 111 #[rv,.int .i64 (x:Int),.int .i64 (y:Int)] W fun e w'=>e=.returned (.int .i64 (cf x y))∧Bl W w'):=fun W hW=>hc W (hw.r.kept hW).gr x y l1 l0
 obtain ⟨c,hcv⟩:∃c,c=cf x y:=⟨_,rfl⟩
 have HLT:Hid (ltF cf x y=decide (c<0)):=by
  have:ltF cf x y=decide (c<0):=by rw [hcv];rfl
  exact this
 rw [←hcv] at CB
 have i1:(a:Int)<(n:Int):=by omega
 have i2:(b:Int)<(n:Int):=by omega
 have k1:(0:Int)≤(a:Int):=by omega
 have k2:(0:Int)≤(b:Int):=by omega
 obtain ⟨R,hR⟩:∃R,R=Sort.order2 (ltF cf) d a b s:=⟨_,rfl⟩
 rw [←hR] at HE ⊢
 clear hx hy hcv l1 l0 hc hN hd hw hR
 by_cases q:c<0
 ·have HR:Hid (R=(b,a,s+1)):=by
   have:R=(b,a,s+1):=by rw [HE.out,HLT.out,if_pos (by simpa using q)]
   exact this
  go_enter Tryz.func214,Tryz.ntmps214
  go_wp2
  have kc:=Kin.cells w1
  have kn:Nonempty (Kin w1):=⟨⟨w1,Qc _⟩⟩
  refine Qg (by kernel_rfl) (by kernel_rfl) ?_
  repeat (go_big_quiet_step ((go_at_call 111;exact Qo (CB.out _ (Kin.h _)))))
  refine wpQuiet_nil ?_
  intro wq hw'
  obtain ⟨nq,hw''⟩:=hw'
  have hq:Bl w1 wq:=hw'' ▸ nq.h
  clear hw'' nq kc kn r1 r0
  have hW2:=HW.out.kept hq
  have c0:=hW2.c
  have f0:=hW2.f
  have z0:=hW2.lt
  have HP:Hid (SwpW w (wq.setCell ⟨sb,0,none⟩ (.int .i64 ((s+1:Nat):Int))) g o d sb (s+1)):=hW2.put (s+1)
  clear hW2 hq
  go_wp2
  refine bodyPost_ret (v:=.tuple #[.int .i64 (b:Int),.int .i64 (a:Int)]) (by simp [results,Tryz.results214,go_sem]) rfl ⟨?_,?_⟩
  ·rw [HR.out]
  ·rw [HR.out]
   simpa using HP.out
 ·have HR:Hid (R=(a,b,s)):=by
   have:R=(a,b,s):=by rw [HE.out,HLT.out,if_neg (by simpa using q)]
   exact this
  go_enter Tryz.func214,Tryz.ntmps214
  go_wp2
  have kc:=Kin.cells w1
  have kn:Nonempty (Kin w1):=⟨⟨w1,Qc _⟩⟩
  refine Qg (by kernel_rfl) (by kernel_rfl) ?_
  repeat (go_big_quiet_step ((go_at_call 111;exact Qo (CB.out _ (Kin.h _)))))
  refine wpQuiet_nil ?_
  intro wq hw'
  obtain ⟨nq,hw''⟩:=hw'
  have hq:Bl w1 wq:=hw'' ▸ nq.h
  clear hw'' nq kc kn r1 r0
  go_wp2
  refine bodyPost_ret (v:=.tuple #[.int .i64 (a:Int),.int .i64 (b:Int)]) (by simp [results,Tryz.results214,go_sem]) rfl ⟨?_,?_⟩
  ·rw [HR.out]
  ·rw [HR.out]
   exact HW.out.kept hq
theorem Xk {lt:Nat→Nat→Bool} {d:Array Nat} {a b s n:Nat} (ha:a<n) (hb:b<n):(Sort.order2 lt d a b s).1<n∧(Sort.order2 lt d a b s).2.1<n∧(Sort.order2 lt d a b s).2.2≤s+1:=by
 unfold Sort.order2
 split
 ·exact ⟨hb,ha,Nat.le_refl _⟩
 ·exact ⟨ha,hb,Nat.le_succ _⟩
theorem Xn {lt:Nat→Nat→Bool} {d:Array Nat} {a b c s n:Nat} (ha:a<n) (hb:b<n) (hc:c<n):(Sort.median lt d a b c s).1<n∧(Sort.median lt d a b c s).2≤s+3:=by
 have h1:=Xk (lt:=lt) (d:=d) (s:=s) ha hb
 have h2:=Xk (lt:=lt) (d:=d) (s:=(Sort.order2 lt d a b s).2.2) h1.2.1 hc
 have h3:=Xk (lt:=lt) (d:=d) (s:=(Sort.order2 lt d (Sort.order2 lt d a b s).2.1 c (Sort.order2 lt d a b s).2.2).2.2) h1.1 h2.1
 exact ⟨h3.2.1,by have:=h3.2.2;have:=h2.2.2;have:=h1.2.2;unfold Sort.median;dsimp only;omega⟩
theorem median_any (w:World) (g o n cap a b c N sb s:Nat) (rv:Value) (cf:Nat→Nat→Int) (hc:CmpF w g N rv cf) (d:Array Nat) (hd:d.size=n) (hN:∀k,k<d.size→d[k]! < N) (ha:a<n) (hb:b<n) (hcn:c<n) (hn:n≤300) (hs:s≤90) (w1:World) (hw:SwpW w w1 g o d sb s) :
  Calls Tryz.prog 201 #[.slice (some ⟨g,o,none⟩) n cap,.int .i64 (a:Int),.int .i64 (b:Int),.int .i64 (c:Int),.pointer (some ⟨sb,0,none⟩),.func (.func 111) #[rv] #[]] w1 fun e w'=>e=.returned (.int .i64 ((Sort.median (ltF cf) d a b c s).1:Int))∧SwpW w w' g o d sb (Sort.median (ltF cf) d a b c s).2:=by
 have h1:=Xk (lt:=ltF cf) (d:=d) (s:=s) ha hb
 have C1:Hid (Calls Tryz.prog 214 #[.slice (some ⟨g,o,none⟩) n cap,.int .i64 (a:Int),.int .i64 (b:Int),.pointer (some ⟨sb,0,none⟩),.func (.func 111) #[rv] #[]] w1 fun e w'=>e=.returned (.tuple #[.int .i64 ((Sort.order2 (ltF cf) d a b s).1:Int),.int .i64 ((Sort.order2 (ltF cf) d a b s).2.1:Int)])∧SwpW w w' g o d sb (Sort.order2 (ltF cf) d a b s).2.2):=order2_any w g o n cap a b N sb s rv cf hc d hd hN ha hb hn (by omega) w1 hw
 have HM:Hid (Sort.median (ltF cf) d a b c s=((Sort.order2 (ltF cf) d (Sort.order2 (ltF cf) d a b s).1 (Sort.order2 (ltF cf) d (Sort.order2 (ltF cf) d a b s).2.1 c (Sort.order2 (ltF cf) d a b s).2.2).1 (Sort.order2 (ltF cf) d (Sort.order2 (ltF cf) d a b s).2.1 c (Sort.order2 (ltF cf) d a b s).2.2).2.2).2.1,(Sort.order2 (ltF cf) d (Sort.order2 (ltF cf) d a b s).1 (Sort.order2 (ltF cf) d (Sort.order2 (ltF cf) d a b s).2.1 c (Sort.order2 (ltF cf) d a b s).2.2).1 (Sort.order2 (ltF cf) d (Sort.order2 (ltF cf) d a b s).2.1 c (Sort.order2 (ltF cf) d a b s).2.2).2.2).2.2)):=rfl
 obtain ⟨⟨x1,y1,s1⟩,e1⟩:∃r,r=Sort.order2 (ltF cf) d a b s:=⟨_,rfl⟩
 rw [←e1] at h1 C1 HM
 dsimp only at h1 C1 HM
 have h2:=Xk (lt:=ltF cf) (d:=d) (s:=s1) h1.2.1 hcn
 have C2:Hid (∀W,SwpW w W g o d sb s1→Calls Tryz.prog 214 #[.slice (some ⟨g,o,none⟩) n cap,.int .i64 (y1:Int),.int .i64 (c:Int),.pointer (some ⟨sb,0,none⟩),.func (.func 111) #[rv] #[]] W fun e w'=>e=.returned (.tuple #[.int .i64 ((Sort.order2 (ltF cf) d y1 c s1).1:Int),.int .i64 ((Sort.order2 (ltF cf) d y1 c s1).2.1:Int)])∧SwpW w w' g o d sb (Sort.order2 (ltF cf) d y1 c s1).2.2):=fun W hW=>order2_any w g o n cap y1 c N sb s1 rv cf hc d hd hN h1.2.1 hcn hn (by omega) W hW
 obtain ⟨⟨x2,y2,s2⟩,e2⟩:∃r,r=Sort.order2 (ltF cf) d y1 c s1:=⟨_,rfl⟩
 rw [←e2] at h2 C2 HM
 dsimp only at h2 C2 HM
 have C3:Hid (∀W,SwpW w W g o d sb s2→Calls Tryz.prog 214 #[.slice (some ⟨g,o,none⟩) n cap,.int .i64 (x1:Int),.int .i64 (x2:Int),.pointer (some ⟨sb,0,none⟩),.func (.func 111) #[rv] #[]] W fun e w'=>e=.returned (.tuple #[.int .i64 ((Sort.order2 (ltF cf) d x1 x2 s2).1:Int),.int .i64 ((Sort.order2 (ltF cf) d x1 x2 s2).2.1:Int)])∧SwpW w w' g o d sb (Sort.order2 (ltF cf) d x1 x2 s2).2.2):=fun W hW=>order2_any w g o n cap x1 x2 N sb s2 rv cf hc d hd hN h1.1 h2.1 hn (by omega) W hW
 obtain ⟨⟨x3,y3,s3⟩,e3⟩:∃r,r=Sort.order2 (ltF cf) d x1 x2 s2:=⟨_,rfl⟩
 rw [←e3] at C3 HM
 dsimp only at C3 HM
 rw [HM.out]
 dsimp only
 clear HM e1 e2 e3 hc hd hN hw h1 h2 ha hb hcn hs
 go_enter Tryz.func201,Tryz.ntmps201
 go_upto_region 2 with (go_at_call 214;refine C1.out.mono ?_;rintro e w2 ⟨rfl,hb1⟩;have H1:Hid (SwpW w w2 g o d sb s1):=hb1;clear hb1)
 go_upto_region 3 with (go_at_call 214;refine (C2.out _ H1.out).mono ?_;rintro e w3 ⟨rfl,hb1⟩;have H2:Hid (SwpW w w3 g o d sb s2):=hb1;clear hb1)
 go_wp2_with (go_at_call 214;refine (C3.out _ H2.out).mono ?_;rintro e w4 ⟨rfl,hb1⟩;have H3:Hid (SwpW w w4 g o d sb s3):=hb1;clear hb1)
 go_ret
 exact ⟨rfl,H3.out⟩
theorem Jo (w:World) (g o n cap a N sb s:Nat) (rv:Value) (cf:Nat→Nat→Int) (hc:CmpF w g N rv cf) (d:Array Nat) (hd:d.size=n) (hN:∀k,k<d.size→d[k]! < N) (ha:1≤a) (hb:a+1<n) (hn:n≤300) (hs:s≤90) (w1:World) (hw:SwpW w w1 g o d sb s) :
  Calls Tryz.prog 200 #[.slice (some ⟨g,o,none⟩) n cap,.int .i64 (a:Int),.pointer (some ⟨sb,0,none⟩),.func (.func 111) #[rv] #[]] w1 fun e w'=>e=.returned (.int .i64 ((Sort.medianAdjacent (ltF cf) d a s).1:Int))∧SwpW w w' g o d sb (Sort.medianAdjacent (ltF cf) d a s).2:=by
 have C:=median_any w g o n cap (a - 1) a (a+1) N sb s rv cf hc d hd hN (by omega) (by omega) hb hn hs w1 hw
 rw [show ((a - 1:Nat):Int)=(a:Int) - 1 by omega,show ((a+1:Nat):Int)=(a:Int)+1 by omega] at C
 have HC:Hid (Calls Tryz.prog 201 #[.slice (some ⟨g,o,none⟩) n cap,.int .i64 ((a:Int) - 1),.int .i64 (a:Int),.int .i64 ((a:Int)+1),.pointer (some ⟨sb,0,none⟩),.func (.func 111) #[rv] #[]] w1 fun e w'=>e=.returned (.int .i64 ((Sort.medianAdjacent (ltF cf) d a s).1:Int))∧SwpW w w' g o d sb (Sort.medianAdjacent (ltF cf) d a s).2):=C
 obtain ⟨R,hR⟩:∃R,R=Sort.medianAdjacent (ltF cf) d a s:=⟨_,rfl⟩
 rw [←hR] at HC ⊢
 clear C hc hd hN hw hR hs
 go_enter Tryz.func200,Tryz.ntmps200
 go_wp2_with (go_at_call 201;refine HC.out.mono ?_;rintro e w2 ⟨rfl,hb1⟩;have H1:Hid (SwpW w w2 g o d sb R.2):=hb1;clear hb1)
 go_ret
 exact ⟨rfl,H1.out⟩
theorem reverse_any (w:World) (g o n cap a b N:Nat) (fv:Value) (d:Array Nat) (hd:d.size=n) (hN:∀k,k<d.size→d[k]! < N) (hab:a<b) (hbn:b≤n) (hn:n≤300) (w1:World) (hw:SrtW w w1 g o d) :
  Calls Tryz.prog 180 #[.slice (some ⟨g,o,none⟩) n cap,.int .i64 (a:Int),.int .i64 (b:Int),fv] w1 fun e w'=>e=.returned (.tuple #[])∧SrtW w w' g o (Sort.reverseRange d a b):=by
 have HW:Hid (SrtW w w1 g o d∧(∀k,k<d.size→d[k]! < N)∧d.size=n):=⟨hw,hN,hd⟩
 obtain ⟨T,hT⟩:∃T,T=Sort.reverseRange d a b:=⟨_,rfl⟩
 have HT:Hid (Sort.reverseLoop a (b - 1) d=T):=hT.symm
 rw [←hT]
 clear hw hN hd hT
 obtain ⟨e,rfl⟩:∃e,b=e+1:=⟨b - 1,by omega⟩
 rw [Nat.add_sub_cancel] at HT
 go_enter Tryz.func180,Tryz.ntmps180
 go_wp2
 go_loopg [8,9] (e+1-a) (fun gk s8 s9 wx=>∃(i j:Nat) (d1:Array Nat),i≤e+1∧j≤e∧i≤j+1∧gk=e+1-i∧s8=.int .i64 (i:Int)∧s9=.int .i64 (j:Int)∧SrtW w wx g o d1∧d1.size=n∧Sort.reverseLoop i j d1=T)
 case atStart=>exact ⟨a,e,d,by omega,by omega,by omega,rfl,rfl,by go_num,HW.out.1,HW.out.2.2,HT.out⟩
 case round =>
  obtain ⟨i,j,d1,hi,hj,hij,rfl,rfl,rfl,hS,hd1,hT1⟩:=hrel
  have HS:Hid (SrtW w wr g o d1∧d1.size=n∧Sort.reverseLoop i j d1=T):=⟨hS,hd1,hT1⟩
  clear hS hd1 hT1
  by_cases h1:i<j
  ·have i1:(i:Int)<(j:Int):=by omega
   have hs1:=HS.out.2.1
   obtain ⟨r1,f1⟩:=HS.out.1.row j (by omega)
   obtain ⟨r0,f0⟩:=HS.out.1.row i (by omega)
   have zg:=HS.out.1.lt
   obtain ⟨x,hx⟩:∃x,x=d1[j]!:=⟨_,rfl⟩
   obtain ⟨y,hy⟩:∃y,y=d1[i]!:=⟨_,rfl⟩
   have hsw:=HS.out.1.swap (i:=i) (j:=j) (by omega) (by omega) (by omega)
   rw [←hx,←hy] at hsw
   rw [←hx] at r1
   rw [←hy] at r0
   have HSW:Hid (SrtW w ((wr.setCell ⟨g,o+i,none⟩ (.int .i64 (x:Int))).setCell ⟨g,o+j,none⟩ (.int .i64 (y:Int))) g o (Sort.swp d1 i j)):=hsw
   have HT2:Hid (Sort.reverseLoop (i+1) (j - 1) (Sort.swp d1 i j)=T):=by
    have:Sort.reverseLoop (i+1) (j - 1) (Sort.swp d1 i j)=T:=by
     rw [←HS.out.2.2]
     conv=>rhs;rw [Sort.reverseLoop,if_pos h1]
    exact this
   have i2:(i:Int)<(n:Int):=by omega
   have i3:(j:Int)<(n:Int):=by omega
   have k2:(0:Int)≤(i:Int):=by omega
   have k3:(0:Int)≤(j:Int):=by omega
   have hne:i≠j:=by omega
   clear hx hy hsw
   go_wp2
   go_region
   all_goals
    go_wp2
    go_roundg (e+1-(i+1))
    case measure=>omega
    case rel=>exact ⟨i+1,j - 1,Sort.swp d1 i j,by omega,by omega,by omega,rfl,by go_num,by go_num,HSW.out.kept (Qf (Qc _)),by rw [Sort.size_swp];exact HS.out.2.1,HT2.out⟩
  ·have i1:¬(i:Int)<(j:Int):=by omega
   have HE:Hid (d1=T):=by
    have:d1=T:=by
     rw [←HS.out.2.2,Sort.reverseLoop,if_neg h1]
    exact this
   go_wp2
   go_end0
   exact ⟨rfl,HE.out ▸ HS.out.1⟩
end Go.Proofs.YtgpjaecgkkgehaaGreatDoor
