/- A part of the proof of stackLays_holds. -/
import Derived.Test.YtgpjaecgkkgehaaGreatDoorQlbn
import Derived.Sort.LotB
set_option maxRecDepth 100000
set_option maxHeartbeats 40000000
namespace Go.Proofs.YtgpjaecgkkgehaaGreatDoor
open Go.RowKit
theorem sift_keeps {lt:Nat→Nat→Bool} {N hi first:Nat}:∀(m root:Nat) (d:Array Nat),hi-root≤m→first+hi≤d.size→(∀k,k<d.size→d[k]! < N)→(Sort.siftDown lt hi first root d).size=d.size∧∀k,k<(Sort.siftDown lt hi first root d).size→(Sort.siftDown lt hi first root d)[k]! < N
 | 0,root,d,hm,_,hN=>by
  rw [Sort.siftDown,dif_pos (by omega)]
  exact ⟨rfl,hN⟩
 | m+1,root,d,hm,hs,hN=>by
  rw [Sort.siftDown]
  by_cases h:2*root+1 ≥ hi
  ·rw [dif_pos h]
   exact ⟨rfl,hN⟩
  ·rw [dif_neg h]
   have step:∀c,root<c→c<hi→(Sort.siftDown lt hi first c (Sort.swp d (first+root) (first+c))).size=d.size∧∀k,k<(Sort.siftDown lt hi first c (Sort.swp d (first+root) (first+c))).size→(Sort.siftDown lt hi first c (Sort.swp d (first+root) (first+c)))[k]! < N:=fun c h1 h2=>by
    have ih:=sift_keeps (lt:=lt) (N:=N) (hi:=hi) (first:=first) m c (Sort.swp d (first+root) (first+c)) (by omega) (by rw [Sort.size_swp];exact hs) (Jb hN (by omega) (by omega))
    rw [Sort.size_swp] at ih
    exact ih
   split
   ·split
    ·exact ⟨rfl,hN⟩
    ·split
     ·exact step (2*root+2) (by omega) (by assumption)
     ·exact ⟨rfl,hN⟩
   ·split
    ·exact ⟨rfl,hN⟩
    ·exact step (2*root+1) (by omega) (by omega)
theorem SrtW.swp_any {w wx:World} {g o:Nat} {d:Array Nat} (h:SrtW w wx g o d) {i j:Nat} (hi:i<d.size) (hj:j<d.size):SrtW w ((wx.setCell ⟨g,o+i,none⟩ (.int .i64 ((d[j]! : Nat):Int))).setCell ⟨g,o+j,none⟩ (.int .i64 ((d[i]! : Nat):Int))) g o (Sort.swp d i j):=by
 by_cases hij:i=j
 ·subst hij
  have g1:=Qm wx g (o+i) (.int .i64 ((d[i]! : Nat):Int))
  have g2:=Qm (wx.setCell ⟨g,o+i,none⟩ (.int .i64 ((d[i]! : Nat):Int))) g (o+i) (.int .i64 ((d[i]! : Nat):Int))
  refine ⟨fun k hk=>?_,Qy h.gr (Qy g1 g2),Nat.lt_of_lt_of_le h.lt (Nat.le_trans g1.size g2.size)⟩
  rw [Sort.size_swp] at hk
  obtain ⟨r1,r2⟩:=h.row k hk
  obtain ⟨q1,_⟩:=h.row i hi
  constructor
  ·rw [Sort.swp_get d hi hi k]
   by_cases e1:k=i
   ·rw [if_pos e1,e1]
    exact Q8 (Q8 q1)
   ·rw [if_neg e1,if_neg e1]
    exact Qp (Qp r1 (by omega)) (by omega)
  ·simp [go_sem,r2]
 ·exact h.swap hi hj hij
theorem heap_any (w:World) (g o n cap a b N:Nat) (rv:Value) (cf:Nat→Nat→Int) (hc:CmpF w g N rv cf) (d:Array Nat) (hd:d.size=n) (hN:∀k,k<d.size→d[k]! < N) (hab:a<b) (hbn:b≤n) (hn:n≤300) (w1:World) (hw:SrtW w w1 g o d) :
  Calls Tryz.prog 177 #[.slice (some ⟨g,o,none⟩) n cap,.int .i64 (a:Int),.int .i64 (b:Int),.func (.func 111) #[rv] #[]] w1 fun e w'=>e=.returned (.tuple #[])∧SrtW w w' g o (Sort.heapSort (ltF cf) d a b):=by
 obtain ⟨hi,hhi⟩:∃hi:Nat,b=a+hi:=⟨b-a,by omega⟩
 subst hhi
 have CS:Hid (∀(W:World) (k top:Nat) (d1:Array Nat),d1.size=n→(∀k,k<d1.size→d1[k]! < N)→k≤300→top≤hi→SrtW w W g o d1→Calls Tryz.prog 199 #[.slice (some ⟨g,o,none⟩) n cap,.int .i64 (k:Int),.int .i64 (top:Int),.int .i64 (a:Int),.func (.func 111) #[rv] #[]] W fun e w'=>e=.returned (.tuple #[])∧SrtW w w' g o (Sort.siftDown (ltF cf) top a k d1)):=fun W k top d1 h1 h2 h3 h4 h5=>sift_any w g o n cap k top a N rv cf hc d1 h1 h2 h3 (by omega) hn W h5
 obtain ⟨T,hT⟩:∃T,T=Sort.heapSort (ltF cf) d a (a+hi):=⟨_,rfl⟩
 have HT:Hid (Sort.heapPop (ltF cf) a hi (Sort.heapBuild (ltF cf) hi a ((hi - 1) / 2+1) d)=T):=by
  have:Sort.heapPop (ltF cf) a hi (Sort.heapBuild (ltF cf) hi a ((hi - 1) / 2+1) d)=T:=by
   rw [hT]
   unfold Sort.heapSort
   rw [Nat.add_sub_cancel_left]
  exact this
 have HW:Hid (SrtW w w1 g o d∧(∀k,k<d.size→d[k]! < N)∧d.size=n):=⟨hw,hN,hd⟩
 have td:((hi:Int) - 1).tdiv 2=(((hi - 1) / 2:Nat):Int):=by
  rw [Int.tdiv_eq_ediv_of_nonneg (by omega)]
  omega
 obtain ⟨h2,hh2⟩:∃x,x=(hi - 1) / 2:=⟨_,rfl⟩
 rw [←hh2] at td HT
 have e1:((a+hi:Nat):Int)-(a:Int)=(hi:Int):=by omega
 have hb2:h2≤300:=by omega
 rw [←hT]
 clear hc hw hN hd hT
 have e2:(a:Int)+(hi:Int)-(a:Int)=(hi:Int):=by omega
 go_enter Tryz.func177,Tryz.ntmps177
 go_wp2
 go_loopg [11] (h2+1) (fun gk s11 wx=>∃(i:Nat) (d1:Array Nat),i≤h2+1∧i=gk∧s11=.int .i64 ((i:Int) - 1)∧SrtW w wx g o d1∧(∀k,k<d1.size→d1[k]! < N)∧d1.size=n∧Sort.heapPop (ltF cf) a hi (Sort.heapBuild (ltF cf) hi a i d1)=T)
 case atStart =>
  refine ⟨h2+1,d,Nat.le_refl _,rfl,?_,HW.out.1,HW.out.2.1,HW.out.2.2,HT.out⟩
  congr 1
  omega
 case round =>
  clear HW HT
  obtain ⟨i,d1,hi1,rfl,rfl,hS,hN1,hd1,hT1⟩:=hrel
  have HS:Hid (SrtW w wr g o d1∧(∀k,k<d1.size→d1[k]! < N)∧d1.size=n∧Sort.heapPop (ltF cf) a hi (Sort.heapBuild (ltF cf) hi a i d1)=T):=⟨hS,hN1,hd1,hT1⟩
  clear hS hN1 hd1 hT1
  rcases i with _|i
  ·have HT2:Hid (Sort.heapPop (ltF cf) a hi d1=T):=HS.out.2.2.2
   go_wp2
   go_loopg [12] hi (fun gk s12 wx=>∃(i:Nat) (d2:Array Nat),i≤hi∧i=gk∧s12=.int .i64 ((i:Int) - 1)∧SrtW w wx g o d2∧(∀k,k<d2.size→d2[k]! < N)∧d2.size=n∧Sort.heapPop (ltF cf) a i d2=T)
   case atStart=>exact ⟨hi,d1,Nat.le_refl _,rfl,rfl,HS.out.1,HS.out.2.1,HS.out.2.2.1,HT2.out⟩
   case round =>
    clear HS HT2
    obtain ⟨i,d2,hi2,rfl,rfl,hS,hN1,hd1,hT1⟩:=hrel
    have HS:Hid (SrtW w wr g o d2∧(∀k,k<d2.size→d2[k]! < N)∧d2.size=n∧Sort.heapPop (ltF cf) a i d2=T):=⟨hS,hN1,hd1,hT1⟩
    clear hS hN1 hd1 hT1
    rcases i with _|i
    ·have HE:Hid (d2=T):=HS.out.2.2.2
     go_wp2
     go_end0
     exact ⟨rfl,HE.out ▸ HS.out.1⟩
    ·have z1:((i+1:Nat):Int) - 1=(i:Int):=by omega
     have z2:(0:Int)≤(i:Int):=by omega
     rw [z1]
     have hs1:=HS.out.2.2.1
     obtain ⟨j,hj⟩:∃j,j=a+i:=⟨_,rfl⟩
     obtain ⟨r1,f1⟩:=HS.out.1.row j (by omega)
     obtain ⟨r0,f0⟩:=HS.out.1.row a (by omega)
     have zg:=HS.out.1.lt
     obtain ⟨x,hx⟩:∃x,x=d2[j]!:=⟨_,rfl⟩
     obtain ⟨y,hy⟩:∃y,y=d2[a]!:=⟨_,rfl⟩
     have hsw:=HS.out.1.swp_any (i:=a) (j:=j) (by omega) (by omega)
     rw [←hx,←hy] at hsw
     rw [←hx] at r1
     rw [←hy] at r0
     have HSW:Hid (SrtW w ((wr.setCell ⟨g,o+a,none⟩ (.int .i64 (x:Int))).setCell ⟨g,o+j,none⟩ (.int .i64 (y:Int))) g o (Sort.swp d2 a j)):=hsw
     have HT2:Hid (Sort.heapPop (ltF cf) a i (Sort.siftDown (ltF cf) i a 0 (Sort.swp d2 a j))=T):=by
      have:=HS.out.2.2.2
      rw [hj]
      exact this
     have HN2:Hid (∀k,k<(Sort.swp d2 a j).size→(Sort.swp d2 a j)[k]! < N):=Jb HS.out.2.1 (by omega) (by omega)
     have HZ2:Hid ((Sort.swp d2 a j).size=n):=(Sort.size_swp ..).trans hs1
     have SK:Hid ((Sort.siftDown (ltF cf) i a 0 (Sort.swp d2 a j)).size=(Sort.swp d2 a j).size∧∀k,k<(Sort.siftDown (ltF cf) i a 0 (Sort.swp d2 a j)).size→(Sort.siftDown (ltF cf) i a 0 (Sort.swp d2 a j))[k]! < N):=sift_keeps (i - 0) 0 _ (Nat.le_refl _) (by have:=HZ2.out;omega) HN2.out
     have e3:(a:Int)+(i:Int)=(j:Int):=by omega
     have w3:IntKind.i64.wrap ((a:Int)+(i:Int))=(j:Int):=by rw [IntKind.wrap_i64];omega
     have i2:(a:Int)<(n:Int):=by omega
     have i3:(j:Int)<(n:Int):=by omega
     have k2:(0:Int)≤(a:Int):=by omega
     have k3:(0:Int)≤(j:Int):=by omega
     have z3:j<n:=by omega
     have z4:a<n:=by omega
     have HF:i≤hi:=by omega
     by_cases hne:a=j
     ·have hxy:x=y:=by rw [hx,hy,hne]
      clear hx hy hsw hj z1 hh2 td e1 e2
      subst hxy hne
      clear r1 f1
      go_wp2
      go_region
      all_goals
       have C1:Hid (Calls Tryz.prog 199 #[.slice (some ⟨g,o,none⟩) n cap,.int .i64 0,.int .i64 (i:Int),.int .i64 (a:Int),.func (.func 111) #[rv] #[]] _ fun e w'=>e=.returned (.tuple #[])∧SrtW w w' g o (Sort.siftDown (ltF cf) i a 0 (Sort.swp d2 a a))):=CS.out _ 0 i _ HZ2.out HN2.out (Nat.zero_le _) HF (HSW.out.kept (Qf (Qc _)))
       go_wp2_with (go_at_call 199;refine C1.out.mono ?_;rintro e w2 ⟨rfl,hb1⟩;have H1:Hid (SrtW w w2 g o (Sort.siftDown (ltF cf) i a 0 (Sort.swp d2 a a))):=hb1;clear hb1)
       go_roundg i
       case measure=>omega
       case rel=>exact ⟨i,Sort.siftDown (ltF cf) i a 0 (Sort.swp d2 a a),by omega,rfl,by go_num,H1.out,SK.out.2,SK.out.1.trans HZ2.out,HT2.out⟩
     ·clear hx hy hsw hj z1 hh2 td e1 e2
      go_wp2
      go_region
      all_goals
       have C1:Hid (Calls Tryz.prog 199 #[.slice (some ⟨g,o,none⟩) n cap,.int .i64 0,.int .i64 (i:Int),.int .i64 (a:Int),.func (.func 111) #[rv] #[]] _ fun e w'=>e=.returned (.tuple #[])∧SrtW w w' g o (Sort.siftDown (ltF cf) i a 0 (Sort.swp d2 a j))):=CS.out _ 0 i _ HZ2.out HN2.out (Nat.zero_le _) HF (HSW.out.kept (Qf (Qc _)))
       go_wp2_with (go_at_call 199;refine C1.out.mono ?_;rintro e w2 ⟨rfl,hb1⟩;have H1:Hid (SrtW w w2 g o (Sort.siftDown (ltF cf) i a 0 (Sort.swp d2 a j))):=hb1;clear hb1)
       go_roundg i
       case measure=>omega
       case rel=>exact ⟨i,Sort.siftDown (ltF cf) i a 0 (Sort.swp d2 a j),by omega,rfl,by go_num,H1.out,SK.out.2,SK.out.1.trans HZ2.out,HT2.out⟩
  ·have z1:((i+1:Nat):Int) - 1=(i:Int):=by omega
   have z2:(0:Int)≤(i:Int):=by omega
   have C1:Hid (Calls Tryz.prog 199 #[.slice (some ⟨g,o,none⟩) n cap,.int .i64 (i:Int),.int .i64 (hi:Int),.int .i64 (a:Int),.func (.func 111) #[rv] #[]] wr fun e w'=>e=.returned (.tuple #[])∧SrtW w w' g o (Sort.siftDown (ltF cf) hi a i d1)):=CS.out wr i hi d1 HS.out.2.2.1 HS.out.2.1 (by omega) (Nat.le_refl _) HS.out.1
   have SK:Hid ((Sort.siftDown (ltF cf) hi a i d1).size=d1.size∧∀k,k<(Sort.siftDown (ltF cf) hi a i d1).size→(Sort.siftDown (ltF cf) hi a i d1)[k]! < N):=sift_keeps (hi-i) i d1 (Nat.le_refl _) (by have:=HS.out.2.2.1;omega) HS.out.2.1
   rw [z1]
   go_wp2_with (go_at_call 199;refine C1.out.mono ?_;rintro e w2 ⟨rfl,hb1⟩;have H1:Hid (SrtW w w2 g o (Sort.siftDown (ltF cf) hi a i d1)):=hb1;clear hb1)
   go_roundg i
   case measure=>omega
   case rel=>exact ⟨i,Sort.siftDown (ltF cf) hi a i d1,by omega,rfl,by go_num,H1.out,SK.out.2,SK.out.1.trans HS.out.2.2.1,HS.out.2.2.2⟩
theorem SwpW.new {w w1:World} {g o:Nat} {d:Array Nat} (h:SrtW w w1 g o d):SwpW w (w1.alloc (.cells #[.int .i64 0] 3)) g o d w1.heap.size 0 :=
  ⟨h.kept (Qb (Qc _)),World.cell?_alloc_at _ _ _ _ rfl,World.frozen?_alloc_at _ _ _ _ rfl,h.gr.size,fun e=>by have:=h.lt;omega⟩
def hintN:Sort.Hint→Nat
  | .unknown=>0
  | .increasing=>1
  | .decreasing=>2
def hintS (s:Nat):Sort.Hint:=if s=0 then .increasing else if s=12 then .decreasing else .unknown
theorem choose_eq {lt:Nat→Nat→Bool} {d:Array Nat} {a l:Nat}:Sort.choosePivot lt d a (a+l) =
    ((if l ≥ 8 then (if l ≥ 50 then Sort.median lt d (Sort.medianAdjacent lt d (a+l / 4*1) 0).1 (Sort.medianAdjacent lt d (a+l / 4*2) (Sort.medianAdjacent lt d (a+l / 4*1) 0).2).1 (Sort.medianAdjacent lt d (a+l / 4*3) (Sort.medianAdjacent lt d (a+l / 4*2) (Sort.medianAdjacent lt d (a+l / 4*1) 0).2).2).1 (Sort.medianAdjacent lt d (a+l / 4*3) (Sort.medianAdjacent lt d (a+l / 4*2) (Sort.medianAdjacent lt d (a+l / 4*1) 0).2).2).2 else Sort.median lt d (a+l / 4*1) (a+l / 4*2) (a+l / 4*3) 0) else (a+l / 4*2,0)).1,
     hintS (if l ≥ 8 then (if l ≥ 50 then Sort.median lt d (Sort.medianAdjacent lt d (a+l / 4*1) 0).1 (Sort.medianAdjacent lt d (a+l / 4*2) (Sort.medianAdjacent lt d (a+l / 4*1) 0).2).1 (Sort.medianAdjacent lt d (a+l / 4*3) (Sort.medianAdjacent lt d (a+l / 4*2) (Sort.medianAdjacent lt d (a+l / 4*1) 0).2).2).1 (Sort.medianAdjacent lt d (a+l / 4*3) (Sort.medianAdjacent lt d (a+l / 4*2) (Sort.medianAdjacent lt d (a+l / 4*1) 0).2).2).2 else Sort.median lt d (a+l / 4*1) (a+l / 4*2) (a+l / 4*3) 0) else (a+l / 4*2,0)).2):=by
  unfold Sort.choosePivot hintS
  dsimp only
  rw [Nat.add_sub_cancel_left]
theorem choose_any (w:World) (g o n cap a b N:Nat) (rv:Value) (cf:Nat→Nat→Int) (hc:CmpF w g N rv cf) (d:Array Nat) (hd:d.size=n) (hN:∀k,k<d.size→d[k]! < N) (hab:a<b) (hbn:b≤n) (hn:n≤300) (w1:World) (hw:SrtW w w1 g o d) :
    Calls Tryz.prog 179 #[.slice (some ⟨g,o,none⟩) n cap,.int .i64 (a:Int),.int .i64 (b:Int),.func (.func 111) #[rv] #[]] w1 fun e w'=>e=.returned (.tuple #[.int .i64 ((Sort.choosePivot (ltF cf) d a b).1:Int),.int .i64 (hintN (Sort.choosePivot (ltF cf) d a b).2:Int)])∧SrtW w w' g o d:=by
  obtain ⟨l,hl⟩:∃l:Nat,b=a+l:=⟨b-a,by omega⟩
  have e2:(b:Int)-(a:Int)=(l:Int):=by omega
  have H0:Hid (SwpW w (w1.alloc (.cells #[.int .i64 0] 3)) g o d w1.heap.size 0):=SwpW.new hw
  have HE:=choose_eq (lt:=ltF cf) (d:=d) (a:=a) (l:=l)
  rw [←hl] at HE
  obtain ⟨R,hR⟩:∃R,R=Sort.choosePivot (ltF cf) d a b:=⟨_,rfl⟩
  rw [←hR] at HE ⊢
  clear hR
  have zg:=hw.lt
  by_cases h8:l ≥ 8
  · have j8:(8:Int)≤(l:Int):=by omega
    rw [if_pos h8] at HE
    by_cases h50:l ≥ 50
    · have j50:(50:Int)≤(l:Int):=by omega
      rw [if_pos h50] at HE
      obtain ⟨x1,hx1⟩:∃x:Nat,x=a+l / 4*1:=⟨_,rfl⟩
      obtain ⟨x2,hx2⟩:∃x:Nat,x=a+l / 4*2:=⟨_,rfl⟩
      obtain ⟨x3,hx3⟩:∃x:Nat,x=a+l / 4*3:=⟨_,rfl⟩
      have y1:(a:Int)+(l:Int) / 4=(x1:Int):=by omega
      have y2:(a:Int)+(l:Int) / 4*2=(x2:Int):=by omega
      have y3:(a:Int)+(l:Int) / 4*3=(x3:Int):=by omega
      rw [←hx1,←hx2,←hx3] at HE
      have C1:Hid (∀W,SwpW w W g o d w1.heap.size 0→Calls Tryz.prog 200 #[.slice (some ⟨g,o,none⟩) n cap,.int .i64 (x1:Int),.pointer (some ⟨w1.heap.size,0,none⟩),.func (.func 111) #[rv] #[]] W fun e w'=>e=.returned (.int .i64 ((Sort.medianAdjacent (ltF cf) d x1 0).1:Int))∧SwpW w w' g o d w1.heap.size (Sort.medianAdjacent (ltF cf) d x1 0).2):=fun W hW=>Jo w g o n cap x1 N w1.heap.size 0 rv cf hc d hd hN (by omega) (by omega) hn (by omega) W hW
      have b1:(Sort.medianAdjacent (ltF cf) d x1 0).1<n∧(Sort.medianAdjacent (ltF cf) d x1 0).2≤0+3:=Xn (by omega) (by omega) (by omega)
      obtain ⟨⟨p1,s1⟩,hr1⟩:∃r,r=Sort.medianAdjacent (ltF cf) d x1 0:=⟨_,rfl⟩
      rw [←hr1] at C1 b1 HE
      dsimp only at C1 b1 HE
      have C2:Hid (∀W,SwpW w W g o d w1.heap.size s1→Calls Tryz.prog 200 #[.slice (some ⟨g,o,none⟩) n cap,.int .i64 (x2:Int),.pointer (some ⟨w1.heap.size,0,none⟩),.func (.func 111) #[rv] #[]] W fun e w'=>e=.returned (.int .i64 ((Sort.medianAdjacent (ltF cf) d x2 s1).1:Int))∧SwpW w w' g o d w1.heap.size (Sort.medianAdjacent (ltF cf) d x2 s1).2):=fun W hW=>Jo w g o n cap x2 N w1.heap.size s1 rv cf hc d hd hN (by omega) (by omega) hn (by omega) W hW
      have b2:(Sort.medianAdjacent (ltF cf) d x2 s1).1<n∧(Sort.medianAdjacent (ltF cf) d x2 s1).2≤s1+3:=Xn (by omega) (by omega) (by omega)
      obtain ⟨⟨p2,s2⟩,hr2⟩:∃r,r=Sort.medianAdjacent (ltF cf) d x2 s1:=⟨_,rfl⟩
      rw [←hr2] at C2 b2 HE
      dsimp only at C2 b2 HE
      have C3:Hid (∀W,SwpW w W g o d w1.heap.size s2→Calls Tryz.prog 200 #[.slice (some ⟨g,o,none⟩) n cap,.int .i64 (x3:Int),.pointer (some ⟨w1.heap.size,0,none⟩),.func (.func 111) #[rv] #[]] W fun e w'=>e=.returned (.int .i64 ((Sort.medianAdjacent (ltF cf) d x3 s2).1:Int))∧SwpW w w' g o d w1.heap.size (Sort.medianAdjacent (ltF cf) d x3 s2).2):=fun W hW=>Jo w g o n cap x3 N w1.heap.size s2 rv cf hc d hd hN (by omega) (by omega) hn (by omega) W hW
      have b3:(Sort.medianAdjacent (ltF cf) d x3 s2).1<n∧(Sort.medianAdjacent (ltF cf) d x3 s2).2≤s2+3:=Xn (by omega) (by omega) (by omega)
      obtain ⟨⟨p3,s3⟩,hr3⟩:∃r,r=Sort.medianAdjacent (ltF cf) d x3 s2:=⟨_,rfl⟩
      rw [←hr3] at C3 b3 HE
      dsimp only at C3 b3 HE
      have C4:Hid (∀W,SwpW w W g o d w1.heap.size s3→Calls Tryz.prog 201 #[.slice (some ⟨g,o,none⟩) n cap,.int .i64 (p1:Int),.int .i64 (p2:Int),.int .i64 (p3:Int),.pointer (some ⟨w1.heap.size,0,none⟩),.func (.func 111) #[rv] #[]] W fun e w'=>e=.returned (.int .i64 ((Sort.median (ltF cf) d p1 p2 p3 s3).1:Int))∧SwpW w w' g o d w1.heap.size (Sort.median (ltF cf) d p1 p2 p3 s3).2):=fun W hW=>median_any w g o n cap p1 p2 p3 N w1.heap.size s3 rv cf hc d hd hN (by omega) (by omega) (by omega) hn (by omega) W hW
      have b4:(Sort.median (ltF cf) d p1 p2 p3 s3).1<n∧(Sort.median (ltF cf) d p1 p2 p3 s3).2≤s3+3:=Xn (by omega) (by omega) (by omega)
      obtain ⟨⟨p4,s4⟩,hr4⟩:∃r,r=Sort.median (ltF cf) d p1 p2 p3 s3:=⟨_,rfl⟩
      rw [←hr4] at C4 b4 HE
      dsimp only at C4 b4 HE
      have HR:Hid (R=(p4,hintS s4)):=HE
      have hs4:s4≤300:=by omega
      clear HE hl hx1 hx2 hx3 hc hd hN hw b1 b2 b3 b4 hr1 hr2 hr3 hr4
      go_enter Tryz.func179,Tryz.ntmps179
      first
      | go_wp2_with (first | (go_at_call 200;refine (C1.out _ H0.out).mono ?_;rintro e w2 ⟨rfl,hb1⟩;have H1:Hid (SwpW w w2 g o d w1.heap.size s1):=hb1;clear hb1 H0) | (go_at_call 200;refine (C2.out _ H1.out).mono ?_;rintro e w3 ⟨rfl,hb1⟩;have H2:Hid (SwpW w w3 g o d w1.heap.size s2):=hb1;clear hb1 H1) | (go_at_call 200;refine (C3.out _ H2.out).mono ?_;rintro e w4 ⟨rfl,hb1⟩;have H3:Hid (SwpW w w4 g o d w1.heap.size s3):=hb1;clear hb1 H2) | (go_at_call 201;refine (C4.out _ H3.out).mono ?_;rintro e w5 ⟨rfl,hb1⟩;have H4:Hid (SwpW w w5 g o d w1.heap.size s4):=hb1;have cc:=hb1.c;clear hb1 H3))
      all_goals
        go_ret2
        refine ⟨?_,H4.out.r⟩
        rw [HR.out]
        simp only [beq_iff_eq,beq_eq_false_iff_ne,ne_eq] at *
        first
        | (have q:hintS s4=.increasing:=by unfold hintS;rw [if_pos (by omega)]
           rw [q];rfl)
        | (have q:hintS s4=.decreasing:=by unfold hintS;rw [if_neg (by omega),if_pos (by omega)]
           rw [q];rfl)
        | (have q:hintS s4=.unknown:=by unfold hintS;rw [if_neg (by omega),if_neg (by omega)]
           rw [q];rfl)
    · have j50:¬(50:Int)≤(l:Int):=by omega
      rw [if_neg h50] at HE
      obtain ⟨x1,hx1⟩:∃x:Nat,x=a+l / 4*1:=⟨_,rfl⟩
      obtain ⟨x2,hx2⟩:∃x:Nat,x=a+l / 4*2:=⟨_,rfl⟩
      obtain ⟨x3,hx3⟩:∃x:Nat,x=a+l / 4*3:=⟨_,rfl⟩
      have y1:(a:Int)+(l:Int) / 4=(x1:Int):=by omega
      have y2:(a:Int)+(l:Int) / 4*2=(x2:Int):=by omega
      have y3:(a:Int)+(l:Int) / 4*3=(x3:Int):=by omega
      rw [←hx1,←hx2,←hx3] at HE
      have C4:Hid (∀W,SwpW w W g o d w1.heap.size 0→Calls Tryz.prog 201 #[.slice (some ⟨g,o,none⟩) n cap,.int .i64 (x1:Int),.int .i64 (x2:Int),.int .i64 (x3:Int),.pointer (some ⟨w1.heap.size,0,none⟩),.func (.func 111) #[rv] #[]] W fun e w'=>e=.returned (.int .i64 ((Sort.median (ltF cf) d x1 x2 x3 0).1:Int))∧SwpW w w' g o d w1.heap.size (Sort.median (ltF cf) d x1 x2 x3 0).2):=fun W hW=>median_any w g o n cap x1 x2 x3 N w1.heap.size 0 rv cf hc d hd hN (by omega) (by omega) (by omega) hn (by omega) W hW
      have b4:(Sort.median (ltF cf) d x1 x2 x3 0).1<n∧(Sort.median (ltF cf) d x1 x2 x3 0).2≤0+3:=Xn (by omega) (by omega) (by omega)
      obtain ⟨⟨p4,s4⟩,hr4⟩:∃r,r=Sort.median (ltF cf) d x1 x2 x3 0:=⟨_,rfl⟩
      rw [←hr4] at C4 b4 HE
      dsimp only at C4 b4 HE
      have HR:Hid (R=(p4,hintS s4)):=HE
      have hs4:s4≤300:=by omega
      clear HE hl hx1 hx2 hx3 hc hd hN hw b4 hr4
      go_enter Tryz.func179,Tryz.ntmps179
      go_wp2_with (go_at_call 201;refine (C4.out _ H0.out).mono ?_;rintro e w5 ⟨rfl,hb1⟩;have H4:Hid (SwpW w w5 g o d w1.heap.size s4):=hb1;have cc:=hb1.c;clear hb1 H0)
      all_goals
        go_ret2
        refine ⟨?_,H4.out.r⟩
        rw [HR.out]
        simp only [beq_iff_eq,beq_eq_false_iff_ne,ne_eq] at *
        first
        | (have q:hintS s4=.increasing:=by unfold hintS;rw [if_pos (by omega)]
           rw [q];rfl)
        | (have q:hintS s4=.decreasing:=by unfold hintS;rw [if_neg (by omega),if_pos (by omega)]
           rw [q];rfl)
        | (have q:hintS s4=.unknown:=by unfold hintS;rw [if_neg (by omega),if_neg (by omega)]
           rw [q];rfl)
  · have j8:¬(8:Int)≤(l:Int):=by omega
    rw [if_neg h8] at HE
    obtain ⟨x2,hx2⟩:∃x:Nat,x=a+l / 4*2:=⟨_,rfl⟩
    have y2:(a:Int)+(l:Int) / 4*2=(x2:Int):=by omega
    rw [←hx2] at HE
    have HR:Hid (R=(x2,.increasing)):=HE
    have hk:SrtW w (w1.alloc (.cells #[.int .i64 0] 3)) g o d:=H0.out.r
    clear HE hl hx2 hc hd hN hw
    go_enter Tryz.func179,Tryz.ntmps179
    go_wp2
    go_ret2
    refine ⟨?_,hk⟩
    rw [HR.out]
    rfl
end Go.Proofs.YtgpjaecgkkgehaaGreatDoor
