/- A part of it. -/
import Derived.Test.YtjkjpopghkeibaaGreatDoorQlbh
set_option maxRecDepth 100000
set_option maxHeartbeats 40000000
namespace Go.Proofs.YtjkjpopghkeibaaGreatDoor
open Go.RowKit
variable {d:Array Nat} {a b i p q r:Nat}
theorem Us {lt:Nat→Nat→Bool} {N hi first:Nat}:∀ (m a:Nat) (d:Array Nat),hi - a≤m→first+hi≤d.size→(∀ k,k<d.size→d[k]! < N)→(Sort.siftDown lt hi first a d).size=d.size∧∀ k,k<(Sort.siftDown lt hi first a d).size→(Sort.siftDown lt hi first a d)[k]! < N
 | 0,a,d,hm,_,hN=>by
  rw [Sort.siftDown,dif_pos γ];exact ⟨rfl,hN⟩
 | m+1,a,d,hm,hs,hN=>by
  rw [Sort.siftDown];by_cases h:2*a+1 ≥ hi
  ·rw [dif_pos h];exact ⟨rfl,hN⟩
  ·rw [dif_neg h]
   have step:∀ c,a<c→c<hi→(Sort.siftDown lt hi first c (Sort.swp d (first+a) (first+c))).size=d.size∧∀ k,k<(Sort.siftDown lt hi first c (Sort.swp d (first+a) (first+c))).size→(Sort.siftDown lt hi first c (Sort.swp d (first+a) (first+c)))[k]! < N:=fun c h1 h2=>by
    have b:=Us (lt:=lt) (N:=N) (hi:=hi) (first:=first) m c (Sort.swp d (first+a) (first+c)) γ (by rw [Sort.size_swp];exact hs) (Jv hN γ γ);rw [Sort.size_swp] at b;exact b
   split
   ·split
    ·exact ⟨rfl,hN⟩
    ·split
     ·exact step (2*a+2) γ χ
     ·exact ⟨rfl,hN⟩
   ·split
    ·exact ⟨rfl,hN⟩
    ·exact step (2*a+1) γ γ
theorem SrtW.swp_any {w a:World} {g o:Nat} (h:SrtW w a g o d) {j:Nat} (hi:i<d.size) (f:j<d.size):SrtW w ((a.setCell ⟨g,o+i,none⟩ (I ((d[j]! : Nat):Int))).setCell ⟨g,o+j,none⟩ (I ((d[i]! : Nat):Int))) g o (Sort.swp d i j):=by
 by_cases hij:i=j
 ·subst hij;have b:=Ql a g (o+i) (I ((d[i]! : Nat):Int));have c:=Ql (a.setCell ⟨g,o+i,none⟩ (I ((d[i]! : Nat):Int))) g (o+i) (I ((d[i]! : Nat):Int));refine ⟨fun k e=>?_,Ji h.gr (Ji b c),Nl h.lt (Nt b.size c.size)⟩;rw [Sort.size_swp] at e;obtain ⟨r1,r2⟩:=h.row k e;obtain ⟨l,_⟩:=h.row i hi;constructor
  ·rw [Sort.swp_get d hi hi k];by_cases e1:k=i
   ·rw [if_pos e1,e1];exact Jq (Jq l)
   ·rw [if_neg e1,if_neg e1];exact Qn (Qn r1 γ) γ
  ·simp [go_sem,r2]
 ·exact h.swap hi f hij
theorem heap_any (w:World) (g o n l a b N:Nat) (B:Value) (c:Nat→Nat→Int) (Z:CmpF w g N B c) (d:Array Nat) (hd:d.size=n) (Y:∀ k,k<d.size→d[k]! < N) (a2:a<b) (a7:b≤n) (hn:n≤300) (w1:World) (hw:SrtW w w1 g o d) :
  Cl 168 #[.slice (Ad g o) n l,I (a:Int),I (b:Int),.func (.func 67) #[B] #[]] w1 fun e w'=>e=.returned (.tuple #[])∧SrtW w w' g o (Sort.heapSort (ltF c) d a b):=by
 obtain ⟨hi,L⟩:∃ hi:Nat,b=a+hi:=⟨b - a,γ⟩;subst L;have CS:Hid (∀ (W:World) (k t:Nat) (d1:Array Nat),d1.size=n→(∀ k,k<d1.size→d1[k]! < N)→k≤300→t≤hi→SrtW w W g o d1→Cl 216 #[.slice (Ad g o) n l,I (k:Int),I (t:Int),I (a:Int),.func (.func 67) #[B] #[]] W fun e w'=>e=.returned (.tuple #[])∧SrtW w w' g o (Sort.siftDown (ltF c) t a k d1)):=fun W k t d1 h1 h2 h3 h4 h5=>sift_any w g o n l k t a N B c Z d1 h1 h2 h3 γ hn W h5;obtain ⟨T,hT⟩:∃ T,T=Sort.heapSort (ltF c) d a (a+hi):=⟨_,rfl⟩
 have J:Hid (Sort.heapPop (ltF c) a hi (Sort.heapBuild (ltF c) hi a ((hi - 1) / 2+1) d)=T):=by
  have:Sort.heapPop (ltF c) a hi (Sort.heapBuild (ltF c) hi a ((hi - 1) / 2+1) d)=T:=by
   rw [hT];unfold Sort.heapSort;rw [Nat.add_sub_cancel_left]
  exact this
 have H:=H3 hw Y hd
 have U:((hi:Int) - 1).tdiv 2=(((hi - 1) / 2:Nat):Int):=by
  rw [Int.tdiv_eq_ediv_of_nonneg γ];omega
 obtain ⟨h2,A⟩:∃ x,x=(hi - 1) / 2:=⟨_,rfl⟩;rw [← A] at U J;have e1:((a+hi:Nat):Int) - (a:Int)=(hi:Int):=γ;have a6:h2≤300:=γ;rw [← hT];clear Z hw Y hd hT;have e2:(a:Int)+(hi:Int) - (a:Int)=(hi:Int):=γ;go_enter Tryz.func168,Tryz.ntmps168;go_wp2;go_loopg [11] (h2+1) (fun K Q V=>∃ (i:Nat) (d1:Array Nat),i≤h2+1∧i=K∧Q=I ((i:Int) - 1)∧SrtW w V g o d1∧(∀ k,k<d1.size→d1[k]! < N)∧d1.size=n∧Sort.heapPop (ltF c) a hi (Sort.heapBuild (ltF c) hi a i d1)=T)
 case atStart =>
  refine ⟨h2+1,d,Nr _,rfl, ?_,H.out.1,H.out.2.1,H.out.2.2,J.out⟩;congr 1
  omega
 case round =>
  clear H J;obtain ⟨i,d1,a8,rfl,rfl,E,q,s,r⟩:=hrel;have f:=H4 E q s r;clear E q s r;rcases i with _ | i
  ·have m:=Hd f.out.2.2.2;go_wp2;go_loopg [12] hi (fun K R V=>∃ (i:Nat) (d2:Array Nat),i≤hi∧i=K∧R=I ((i:Int) - 1)∧SrtW w V g o d2∧(∀ k,k<d2.size→d2[k]! < N)∧d2.size=n∧Sort.heapPop (ltF c) a i d2=T)
   case atStart=>exact ⟨hi,d1,Nr _,rfl,rfl,f.out.1,f.out.2.1,f.out.2.2.1,m.out⟩
   case round =>
    clear f m;obtain ⟨i,d2,aa,rfl,rfl,E,q,s,r⟩:=hrel;have f:=H4 E q s r;clear E q s r;rcases i with _ | i
    ·have HE:=Hd f.out.2.2.2;go_wp2;go_end0
     exact ⟨rfl,HE.out ▸ f.out.1⟩
    ·have z1:((i+1:Nat):Int) - 1=(i:Int):=γ;have z2:(0:Int)≤(i:Int):=γ;rw [z1];have O:=f.out.2.2.1;obtain ⟨j,M⟩:∃ j,j=a+i:=⟨_,rfl⟩;obtain ⟨r1,f1⟩:=f.out.1.row j γ;obtain ⟨r0,f0⟩:=f.out.1.row a γ;have zg:=f.out.1.lt;obtain ⟨x,F⟩:∃ x,x=d2[j]!:=⟨_,rfl⟩;obtain ⟨y,G⟩:∃ y,y=d2[a]!:=⟨_,rfl⟩;have u:=f.out.1.swp_any (i:=a) (j:=j) γ γ;rw [← F,← G] at u;rw [← F] at r1;rw [← G] at r0;have D:=Hd u
     have m:Hid (Sort.heapPop (ltF c) a i (Sort.siftDown (ltF c) i a 0 (Sort.swp d2 a j))=T):=by
      have:=f.out.2.2.2;rw [M];exact this
     have v:Hid (∀ k,k<(Sort.swp d2 a j).size→(Sort.swp d2 a j)[k]! < N):=Jv f.out.2.1 γ γ;have p:Hid ((Sort.swp d2 a j).size=n):=(Sort.size_swp ..).trans O;have z:Hid ((Sort.siftDown (ltF c) i a 0 (Sort.swp d2 a j)).size=(Sort.swp d2 a j).size∧∀ k,k<(Sort.siftDown (ltF c) i a 0 (Sort.swp d2 a j)).size→(Sort.siftDown (ltF c) i a 0 (Sort.swp d2 a j))[k]! < N):=Us (i - 0) 0 _ (Nr _) (by have:=p.out;omega) v.out;have e3:(a:Int)+(i:Int)=(j:Int):=γ;have w3:IntKind.i64.wrap ((a:Int)+(i:Int))=(j:Int):=υ;have i2:(a:Int)<(n:Int):=γ;have i3:(j:Int)<(n:Int):=γ;have k2:(0:Int)≤(a:Int):=γ;have k3:(0:Int)≤(j:Int):=γ;have z3:j<n:=γ;have z4:a<n:=γ;have X:i≤hi:=γ;by_cases hne:a=j
     ·have P:x=y:=by rw [F,G,hne]
      clear F G u M z1 A U e1 e2;subst P hne;clear r1 f1;go_wp2;go_region
      all_goals
       have C:Hid (Cl 216 #[.slice (Ad g o) n l,I 0,I (i:Int),I (a:Int),.func (.func 67) #[B] #[]] _ fun e w'=>e=.returned (.tuple #[])∧SrtW w w' g o (Sort.siftDown (ltF c) i a 0 (Sort.swp d2 a a))):=CS.out _ 0 i _ p.out v.out (Nat.zero_le _) X (D.out.kept (Qg (Qe _)));go_wp2_with (go_at_call 216;refine C.out.mono ?_;rintro e w2 ⟨rfl,h⟩;have H1:=Hd h;clear h)
       go_roundg i
       case measure=>omega
       case rel=>exact ⟨i,Sort.siftDown (ltF c) i a 0 (Sort.swp d2 a a),γ,rfl,σ,H1.out,z.out.2,z.out.1.trans p.out,m.out⟩
     ·clear F G u M z1 A U e1 e2;go_wp2;go_region
      all_goals
       have C:Hid (Cl 216 #[.slice (Ad g o) n l,I 0,I (i:Int),I (a:Int),.func (.func 67) #[B] #[]] _ fun e w'=>e=.returned (.tuple #[])∧SrtW w w' g o (Sort.siftDown (ltF c) i a 0 (Sort.swp d2 a j))):=CS.out _ 0 i _ p.out v.out (Nat.zero_le _) X (D.out.kept (Qg (Qe _)));go_wp2_with (go_at_call 216;refine C.out.mono ?_;rintro e w2 ⟨rfl,h⟩;have H1:=Hd h;clear h)
       go_roundg i
       case measure=>omega
       case rel=>exact ⟨i,Sort.siftDown (ltF c) i a 0 (Sort.swp d2 a j),γ,rfl,σ,H1.out,z.out.2,z.out.1.trans p.out,m.out⟩
  ·have z1:((i+1:Nat):Int) - 1=(i:Int):=γ;have z2:(0:Int)≤(i:Int):=γ;have C:Hid (Cl 216 #[.slice (Ad g o) n l,I (i:Int),I (hi:Int),I (a:Int),.func (.func 67) #[B] #[]] wr fun e w'=>e=.returned (.tuple #[])∧SrtW w w' g o (Sort.siftDown (ltF c) hi a i d1)):=CS.out wr i hi d1 f.out.2.2.1 f.out.2.1 γ (Nr _) f.out.1;have z:Hid ((Sort.siftDown (ltF c) hi a i d1).size=d1.size∧∀ k,k<(Sort.siftDown (ltF c) hi a i d1).size→(Sort.siftDown (ltF c) hi a i d1)[k]! < N):=Us (hi - i) i d1 (Nr _) (by have:=f.out.2.2.1;omega) f.out.2.1;rw [z1];go_wp2_with (go_at_call 216;refine C.out.mono ?_;rintro e w2 ⟨rfl,h⟩;have H1:=Hd h;clear h)
   go_roundg i
   case measure=>omega
   case rel=>exact ⟨i,Sort.siftDown (ltF c) hi a i d1,γ,rfl,σ,H1.out,z.out.2,z.out.1.trans f.out.2.2.1,f.out.2.2.2⟩
theorem SwpW.new {w w1:World} {g o:Nat} (h:SrtW w w1 g o d):SwpW w (w1.alloc (.cells #[I 0] 3)) g o d w1.heap.size 0 :=
  ⟨h.kept β1,World.cell?_alloc_at _ _ _ _ rfl,World.frozen?_alloc_at _ _ _ _ rfl,h.gr.size,fun e=>by have:=h.lt;omega⟩
def hintN:Sort.Hint→Nat
  | .unknown=>0
  | .increasing=>1
  | .decreasing=>2
def hintS (s:Nat):Sort.Hint:=if s=0 then .increasing else if s=12 then .decreasing else .unknown
theorem choose_eq {lt:Nat→Nat→Bool} {l:Nat}:Sort.choosePivot lt d a (a+l) =
    ((if l ≥ 8 then (if l ≥ 50 then Sort.median lt d (Sort.medianAdjacent lt d (a+l / 4*1) 0).1 (Sort.medianAdjacent lt d (a+l / 4*2) (Sort.medianAdjacent lt d (a+l / 4*1) 0).2).1 (Sort.medianAdjacent lt d (a+l / 4*3) (Sort.medianAdjacent lt d (a+l / 4*2) (Sort.medianAdjacent lt d (a+l / 4*1) 0).2).2).1 (Sort.medianAdjacent lt d (a+l / 4*3) (Sort.medianAdjacent lt d (a+l / 4*2) (Sort.medianAdjacent lt d (a+l / 4*1) 0).2).2).2 else Sort.median lt d (a+l / 4*1) (a+l / 4*2) (a+l / 4*3) 0) else (a+l / 4*2,0)).1,
     hintS (if l ≥ 8 then (if l ≥ 50 then Sort.median lt d (Sort.medianAdjacent lt d (a+l / 4*1) 0).1 (Sort.medianAdjacent lt d (a+l / 4*2) (Sort.medianAdjacent lt d (a+l / 4*1) 0).2).1 (Sort.medianAdjacent lt d (a+l / 4*3) (Sort.medianAdjacent lt d (a+l / 4*2) (Sort.medianAdjacent lt d (a+l / 4*1) 0).2).2).1 (Sort.medianAdjacent lt d (a+l / 4*3) (Sort.medianAdjacent lt d (a+l / 4*2) (Sort.medianAdjacent lt d (a+l / 4*1) 0).2).2).2 else Sort.median lt d (a+l / 4*1) (a+l / 4*2) (a+l / 4*3) 0) else (a+l / 4*2,0)).2):=by
  unfold Sort.choosePivot hintS;dsimp only;rw [Nat.add_sub_cancel_left]
theorem choose_any (w:World) (g o n j a b N:Nat) (p:Value) (f:Nat→Nat→Int) (A:CmpF w g N p f) (d:Array Nat) (B:d.size=n) (z:∀ k,k<d.size→d[k]! < N) (a7:a<b) (a8:b≤n) (M:n≤300) (w1:World) (T:SrtW w w1 g o d) :
    Cl 170 #[.slice (Ad g o) n j,I (a:Int),I (b:Int),.func (.func 67) #[p] #[]] w1 fun e w'=>e=.returned (.tuple #[I ((Sort.choosePivot (ltF f) d a b).1:Int),I (hintN (Sort.choosePivot (ltF f) d a b).2:Int)])∧SrtW w w' g o d:=by
  obtain ⟨l,U⟩:∃ l:Nat,b=a+l:=⟨b - a,γ⟩;have e2:(b:Int) - (a:Int)=(l:Int):=γ;have K:=Hd (SwpW.new T);have i:=choose_eq (lt:=ltF f) (d:=d) (a:=a) (l:=l);rw [← U] at i;obtain ⟨R,hR⟩:∃ R,R=Sort.choosePivot (ltF f) d a b:=⟨_,rfl⟩;rw [← hR] at i ⊢;clear hR;have zg:=T.lt;by_cases h8:l ≥ 8
  · have j8:(8:Int)≤(l:Int):=γ
    rw [if_pos h8] at i;by_cases h50:l ≥ 50
    · have a6:(50:Int)≤(l:Int):=γ
      rw [if_pos h50] at i;obtain ⟨x1,t⟩:∃ x:Nat,x=a+l / 4*1:=⟨_,rfl⟩;obtain ⟨x2,m⟩:∃ x:Nat,x=a+l / 4*2:=⟨_,rfl⟩;obtain ⟨x3,u⟩:∃ x:Nat,x=a+l / 4*3:=⟨_,rfl⟩;have y1:(a:Int)+(l:Int) / 4=(x1:Int):=γ;have y2:(a:Int)+(l:Int) / 4*2=(x2:Int):=γ;have y3:(a:Int)+(l:Int) / 4*3=(x3:Int):=γ;rw [← t,← m,← u] at i;have V:Hid (∀ W,SwpW w W g o d w1.heap.size 0→Cl 217 #[.slice (Ad g o) n j,I (x1:Int),.pointer (Az w1.heap.size),.func (.func 67) #[p] #[]] W fun e w'=>e=.returned (I ((Sort.medianAdjacent (ltF f) d x1 0).1:Int))∧SwpW w w' g o d w1.heap.size (Sort.medianAdjacent (ltF f) d x1 0).2):=fun W v=>Xl w g o n j x1 N w1.heap.size 0 p f A d B z γ γ M γ W v;have b1:(Sort.medianAdjacent (ltF f) d x1 0).1<n∧(Sort.medianAdjacent (ltF f) d x1 0).2≤0+3:=Ve γ γ γ;obtain ⟨⟨G,C⟩,O⟩:∃ r,r=Sort.medianAdjacent (ltF f) d x1 0:=⟨_,rfl⟩;rw [← O] at V b1 i;dsimp only at V b1 i;have X:Hid (∀ W,SwpW w W g o d w1.heap.size C→Cl 217 #[.slice (Ad g o) n j,I (x2:Int),.pointer (Az w1.heap.size),.func (.func 67) #[p] #[]] W fun e w'=>e=.returned (I ((Sort.medianAdjacent (ltF f) d x2 C).1:Int))∧SwpW w w' g o d w1.heap.size (Sort.medianAdjacent (ltF f) d x2 C).2):=fun W v=>Xl w g o n j x2 N w1.heap.size C p f A d B z γ γ M γ W v;have b2:(Sort.medianAdjacent (ltF f) d x2 C).1<n∧(Sort.medianAdjacent (ltF f) d x2 C).2≤C+3:=Ve γ γ γ;obtain ⟨⟨H,D⟩,P⟩:∃ r,r=Sort.medianAdjacent (ltF f) d x2 C:=⟨_,rfl⟩;rw [← P] at X b2 i;dsimp only at X b2 i;have Y:Hid (∀ W,SwpW w W g o d w1.heap.size D→Cl 217 #[.slice (Ad g o) n j,I (x3:Int),.pointer (Az w1.heap.size),.func (.func 67) #[p] #[]] W fun e w'=>e=.returned (I ((Sort.medianAdjacent (ltF f) d x3 D).1:Int))∧SwpW w w' g o d w1.heap.size (Sort.medianAdjacent (ltF f) d x3 D).2):=fun W v=>Xl w g o n j x3 N w1.heap.size D p f A d B z γ γ M γ W v;have b3:(Sort.medianAdjacent (ltF f) d x3 D).1<n∧(Sort.medianAdjacent (ltF f) d x3 D).2≤D+3:=Ve γ γ γ;obtain ⟨⟨J,E⟩,Q⟩:∃ r,r=Sort.medianAdjacent (ltF f) d x3 D:=⟨_,rfl⟩;rw [← Q] at Y b3 i;dsimp only at Y b3 i;have F:Hid (∀ W,SwpW w W g o d w1.heap.size E→Cl 218 #[.slice (Ad g o) n j,I (G:Int),I (H:Int),I (J:Int),.pointer (Az w1.heap.size),.func (.func 67) #[p] #[]] W fun e w'=>e=.returned (I ((Sort.median (ltF f) d G H J E).1:Int))∧SwpW w w' g o d w1.heap.size (Sort.median (ltF f) d G H J E).2):=fun W v=>Uu w g o n j G H J N w1.heap.size E p f A d B z γ γ γ M γ W v;have b4:(Sort.median (ltF f) d G H J E).1<n∧(Sort.median (ltF f) d G H J E).2≤E+3:=Ve γ γ γ;obtain ⟨⟨p4,y⟩,s⟩:∃ r,r=Sort.median (ltF f) d G H J E:=⟨_,rfl⟩;rw [← s] at F b4 i;dsimp only at F b4 i;have L:=Hd i;have a2:y≤300:=γ;clear i U t m u A B z T b1 b2 b3 b4 O P Q s;go_enter Tryz.func170,Tryz.ntmps170;first
      | go_wp2_with (first | (go_at_call 217;refine (V.out _ K.out).mono ?_;rintro e w2 ⟨rfl,h⟩;have H1:=Hd h;clear h K) | (go_at_call 217;refine (X.out _ H1.out).mono ?_;rintro e w3 ⟨rfl,h⟩;have H2:=Hd h;clear h H1) | (go_at_call 217;refine (Y.out _ H2.out).mono ?_;rintro e w4 ⟨rfl,h⟩;have H3:=Hd h;clear h H2) | (go_at_call 218;refine (F.out _ H3.out).mono ?_;rintro e w5 ⟨rfl,h⟩;have Z:=Hd h;have cc:=h.c;clear h H3))
      all_goals
        go_ret2
        refine ⟨?_,Z.out.r⟩;rw [L.out];simp only [beq_iff_eq,beq_eq_false_iff_ne,ne_eq] at *;first
        | (have q:hintS y=.increasing:=by unfold hintS;rw [if_pos γ]
           rw [q];rfl)
        | (have q:hintS y=.decreasing:=by unfold hintS;rw [if_neg γ,if_pos γ]
           rw [q];rfl)
        | (have q:hintS y=.unknown:=by unfold hintS;rw [if_neg γ,if_neg γ]
           rw [q];rfl)
    · have a6:¬ (50:Int)≤(l:Int):=γ
      rw [if_neg h50] at i;obtain ⟨x1,t⟩:∃ x:Nat,x=a+l / 4*1:=⟨_,rfl⟩;obtain ⟨x2,m⟩:∃ x:Nat,x=a+l / 4*2:=⟨_,rfl⟩;obtain ⟨x3,u⟩:∃ x:Nat,x=a+l / 4*3:=⟨_,rfl⟩;have y1:(a:Int)+(l:Int) / 4=(x1:Int):=γ;have y2:(a:Int)+(l:Int) / 4*2=(x2:Int):=γ;have y3:(a:Int)+(l:Int) / 4*3=(x3:Int):=γ;rw [← t,← m,← u] at i;have F:Hid (∀ W,SwpW w W g o d w1.heap.size 0→Cl 218 #[.slice (Ad g o) n j,I (x1:Int),I (x2:Int),I (x3:Int),.pointer (Az w1.heap.size),.func (.func 67) #[p] #[]] W fun e w'=>e=.returned (I ((Sort.median (ltF f) d x1 x2 x3 0).1:Int))∧SwpW w w' g o d w1.heap.size (Sort.median (ltF f) d x1 x2 x3 0).2):=fun W v=>Uu w g o n j x1 x2 x3 N w1.heap.size 0 p f A d B z γ γ γ M γ W v;have b4:(Sort.median (ltF f) d x1 x2 x3 0).1<n∧(Sort.median (ltF f) d x1 x2 x3 0).2≤0+3:=Ve γ γ γ;obtain ⟨⟨p4,y⟩,s⟩:∃ r,r=Sort.median (ltF f) d x1 x2 x3 0:=⟨_,rfl⟩;rw [← s] at F b4 i;dsimp only at F b4 i;have L:=Hd i;have a2:y≤300:=γ;clear i U t m u A B z T b4 s;go_enter Tryz.func170,Tryz.ntmps170;go_wp2_with (go_at_call 218;refine (F.out _ K.out).mono ?_;rintro e w5 ⟨rfl,h⟩;have Z:=Hd h;have cc:=h.c;clear h K)
      all_goals
        go_ret2
        refine ⟨?_,Z.out.r⟩;rw [L.out];simp only [beq_iff_eq,beq_eq_false_iff_ne,ne_eq] at *;first
        | (have q:hintS y=.increasing:=by unfold hintS;rw [if_pos γ]
           rw [q];rfl)
        | (have q:hintS y=.decreasing:=by unfold hintS;rw [if_neg γ,if_pos γ]
           rw [q];rfl)
        | (have q:hintS y=.unknown:=by unfold hintS;rw [if_neg γ,if_neg γ]
           rw [q];rfl)
  · have j8:¬ (8:Int)≤(l:Int):=γ
    rw [if_neg h8] at i;obtain ⟨x2,m⟩:∃ x:Nat,x=a+l / 4*2:=⟨_,rfl⟩;have y2:(a:Int)+(l:Int) / 4*2=(x2:Int):=γ;rw [← m] at i;have L:=Hd i;have hk:SrtW w (w1.alloc (.cells #[I 0] 3)) g o d:=K.out.r;clear i U m A B z T;go_enter Tryz.func170,Tryz.ntmps170;go_wp2;go_ret2
    refine ⟨?_,hk⟩;rw [L.out];rfl
theorem partEq_any (w:World) (g o n ad a b pv N:Nat) (rv:Value) (m:Nat→Nat→Int) (hc:CmpF w g N rv m) (d:Array Nat) (hd:d.size=n) (hN:∀ k,k<d.size→d[k]! < N) (am:a<pv) (au:pv<b) (an:b≤n) (hn:n≤300) (w1:World) (hw:SrtW w w1 g o d) :
  Cl 173 #[.slice (Ad g o) n ad,I (a:Int),I (b:Int),I (pv:Int),.func (.func 67) #[rv] #[]] w1 fun e w'=>e=.returned (I ((Sort.partitionEqual (ltF m) d a b pv).1:Int))∧SrtW w w' g o (Sort.partitionEqual (ltF m) d a b pv).2:=by
 have HC:Hid (CmpF w g N rv m):=hc;have ar:a≠pv:=γ;obtain ⟨r1,f1⟩:=hw.row pv γ;obtain ⟨r0,f0⟩:=hw.row a γ;have zg:=hw.lt;obtain ⟨x,hx⟩:∃ x,x=d[pv]!:=⟨_,rfl⟩;obtain ⟨y,hy⟩:∃ y,y=d[a]!:=⟨_,rfl⟩;have s:=hw.swp_any (i:=a) (j:=pv) γ γ;rw [← hx,← hy] at s;rw [← hx] at r1;rw [← hy] at r0;have J:Hid (SrtW w ((w1.setCell ⟨g,o+a,none⟩ (I (x:Int))).setCell ⟨g,o+pv,none⟩ (I (y:Int))) g o (Sort.swp d a pv)):=s;have a2:Hid ((∀ k,k<(Sort.swp d a pv).size→(Sort.swp d a pv)[k]! < N)∧(Sort.swp d a pv).size=n):=⟨Jv hN γ γ,(Sort.size_swp ..).trans hd⟩;obtain ⟨T,hT⟩:∃ T,T=Sort.partitionEqual (ltF m) d a b pv:=⟨_,rfl⟩;have HT:Hid (Sort.partEqLoop (ltF m) a (a+1) (b - 1) (Sort.swp d a pv)=T):=hT.symm;rw [← hT];obtain ⟨b',ae⟩:∃ b',b=b'+1:=⟨b - 1,γ⟩;have i2:(a:Int)<(n:Int):=γ;have i3:(pv:Int)<(n:Int):=γ;have k2:(0:Int)≤(a:Int):=γ;have k3:(0:Int)≤(pv:Int):=γ;subst ae;rw [Nat.add_sub_cancel] at HT;clear hc hw hN hd hT hx hy s;go_enter Tryz.func173,Tryz.ntmps173;go_wp2;go_region
 all_goals
  go_wp2;go_loopg [11,12] (b'+1 - (a+1)) (fun gk a7 U wx=>∃ (i j:Nat) (d1:Array Nat),a+1≤i∧i≤j+1∧j≤b'∧gk=j+1 - i∧a7=I (i:Int)∧U=I (j:Int)∧SrtW w wx g o d1∧(∀ k,k<d1.size→d1[k]! < N)∧d1.size=n∧Sort.partEqLoop (ltF m) a i j d1=T)
  case atStart=>exact ⟨a+1,b',Sort.swp d a pv,Nr _,γ,Nr _,rfl,σ,rfl,J.out.kept (Qg (Qe _)),a2.out.1,a2.out.2,HT.out⟩
  case round =>
   clear J a2 HT r1 f1 r0 f0;obtain ⟨i,j,d1,ak,af,aq,rfl,rfl,rfl,hS,aa,ac,ab⟩:=hrel;have HS:Hid (SrtW w wr g o d1):=hS;have D:Hid ((∀ k,k<d1.size→d1[k]! < N)∧d1.size=n∧Sort.partEqLoop (ltF m) a i j d1=T):=⟨aa,ac,ab⟩;clear hS aa ac ab;go_wp2;go_loopg [11] (j+1 - i) (fun gk a7 wx=>∃ f:Nat,i≤f∧f≤j+1∧gk=j+1 - f∧a7=I (f:Int)∧SrtW w wx g o d1∧Sort.scanUp (fun x => !ltF m d1[a]! x) d1 j f=Sort.scanUp (fun x => !ltF m d1[a]! x) d1 j i)
   case atStart=>exact ⟨i,Nr _,af,rfl,rfl,HS.out,rfl⟩
   case round =>
    clear HS;obtain ⟨f,ao,ap,rfl,rfl,z,a8⟩:=hrel;have H2:Hid (SrtW w wr g o d1):=z;have HU:Hid (Sort.scanUp (fun x => !ltF m d1[a]! x) d1 j f=Sort.scanUp (fun x => !ltF m d1[a]! x) d1 j i):=a8;clear z a8;by_cases h1:f≤j
    ·have t1:(f:Int)≤(j:Int):=γ;have X:=D.out.2.1;obtain ⟨R,Z⟩:=H2.out.row f γ;obtain ⟨Q,Y⟩:=H2.out.row a γ;have lk:=D.out.1 f γ;have P:=D.out.1 a γ;have zh:=H2.out.lt;obtain ⟨u,H⟩:∃ u,u=d1[a]!:=⟨_,rfl⟩;obtain ⟨v,hv⟩:∃ v,v=d1[f]!:=⟨_,rfl⟩;rw [← hv] at R lk;rw [← H] at Q P;have M:Hid (u=d1[a]! ∧ v=d1[f]!):=⟨H,hv⟩;have G:Hid (∀ W:World,Bl wr W→Rt 67 #[rv,I (u:Int),I (v:Int)] W (I (m u v))):=fun W hW=>HC.out W (H2.out.kept hW).gr u v P lk;obtain ⟨c,r⟩:∃ c,c=m u v:=⟨_,rfl⟩
     have p:Hid (ltF m d1[a]! d1[f]! = decide (c<0)):=by
      have:ltF m d1[a]! d1[f]! = decide (c<0):=by rw [r,H,hv];rfl
      exact this
     rw [← r] at G;have iK:(f:Int)<(n:Int):=γ;have kK:(0:Int)≤(f:Int):=γ;clear H hv r lk P;by_cases q:c<0
     ·have K:decide (c<0)=true:=decide_eq_true q;go_wp2;obtain ⟨A,B⟩:=kcn wr;refine wk ?_;repeat (go_big_quiet_step ((go_at_call 67;exact Qf (G.out _ (Kin.h _)))))
      refine kq1 (fun C hq=>?_);clear A B
      have HI:Hid (f=Sort.scanUp (fun x => !ltF m d1[a]! x) d1 j i):=by
       have:f=Sort.scanUp (fun x => !ltF m d1[a]! x) d1 j i:=by
        rw [← HU.out];exact (Go.Proofs.scanUp_end _ d1 j f (Or.inr (by rw [p.out,K];rfl))).symm
       exact this
      have t:Hid (SrtW w C g o d1):=H2.out.kept hq;clear R Q Z Y hq G M p HU H2 q K zh;go_wp2;go_loopg [12] j (fun gk U wx=>∃ l:Nat,l≤j∧f≤l+1∧l=gk∧U=I (l:Int)∧SrtW w wx g o d1∧Sort.scanDown (fun x=>ltF m d1[a]! x) d1 f l=Sort.scanDown (fun x=>ltF m d1[a]! x) d1 f j)
      case atStart=>exact ⟨j,Nr _,γ,rfl,rfl,t.out,rfl⟩
      case round =>
       clear t;obtain ⟨l,ag,ah,rfl,rfl,z,O⟩:=hrel;have H2:Hid (SrtW w wr g o d1):=z;have V:Hid (Sort.scanDown (fun x=>ltF m d1[a]! x) d1 f l=Sort.scanDown (fun x=>ltF m d1[a]! x) d1 f j):=O;clear z O;by_cases h2:f≤l
       ·have t2:(f:Int)≤(l:Int):=γ;have X:=D.out.2.1;obtain ⟨R,Z⟩:=H2.out.row l γ;obtain ⟨Q,Y⟩:=H2.out.row a γ;have lk:=D.out.1 l γ;have P:=D.out.1 a γ;have zh:=H2.out.lt;obtain ⟨u,H⟩:∃ u,u=d1[a]!:=⟨_,rfl⟩;obtain ⟨v,hv⟩:∃ v,v=d1[l]!:=⟨_,rfl⟩;rw [← hv] at R lk;rw [← H] at Q P;have M:Hid (u=d1[a]! ∧ v=d1[l]!):=⟨H,hv⟩;have G:Hid (∀ W:World,Bl wr W→Rt 67 #[rv,I (u:Int),I (v:Int)] W (I (m u v))):=fun W hW=>HC.out W (H2.out.kept hW).gr u v P lk;obtain ⟨c,r⟩:∃ c,c=m u v:=⟨_,rfl⟩
        have p:Hid (ltF m d1[a]! d1[l]! = decide (c<0)):=by
         have:ltF m d1[a]! d1[l]! = decide (c<0):=by rw [r,H,hv];rfl
         exact this
        rw [← r] at G;have iK:(l:Int)<(n:Int):=γ;have kK:(0:Int)≤(l:Int):=γ;clear H hv r lk P;by_cases q:c<0
        ·have K:decide (c<0)=true:=decide_eq_true q;go_wp2;obtain ⟨A,B⟩:=kcn wr;refine wk ?_;repeat (go_big_quiet_step ((go_at_call 67;exact Qf (G.out _ (Kin.h _)))))
         refine kq1 (fun C hq=>?_);clear A B;clear R Q Z Y;go_wp2;go_roundg (l - 1)
         case measure=>omega
         case rel=>exact ⟨l - 1,γ,γ,rfl,σ,H2.out.kept hq,by rw [← V.out];exact (Go.Proofs.scanDown_go _ d1 f l h2 γ (by rw [p.out];exact K)).symm⟩
        ·have K:decide (c<0)=false:=decide_eq_false q;go_wp2;obtain ⟨A,B⟩:=kcn wr;refine wk ?_;repeat (go_big_quiet_step ((go_at_call 67;exact Qf (G.out _ (Kin.h _)))))
         refine kq1 (fun C hq=>?_);clear A B
         have HX:Hid (l=Sort.scanDown (fun x=>ltF m d1[a]! x) d1 f j):=by
          have:l=Sort.scanDown (fun x=>ltF m d1[a]! x) d1 f j:=by
           rw [← V.out];exact (Go.Proofs.scanDown_end _ d1 f l (Or.inr (by rw [p.out];exact K))).symm
          exact this
         have ai:f<l:=Go.Proofs.scans_lt (ltF m) a i j d1 γ HI.out HX.out h2
         have a6:Hid (Sort.partEqLoop (ltF m) a (f+1) (l - 1) (Sort.swp d1 f l)=T):=by
          have:Sort.partEqLoop (ltF m) a (f+1) (l - 1) (Sort.swp d1 f l)=T:=by
           rw [← D.out.2.2];exact (Go.Proofs.partEq_go (ltF m) a i j d1 HI.out HX.out γ).symm
          exact this
         have t:Hid (SrtW w C g o d1):=H2.out.kept hq;clear R Q Z Y hq G M p V H2;obtain ⟨r4,f4⟩:=t.out.row l γ;obtain ⟨r5,f5⟩:=t.out.row f γ;have zq:=t.out.lt;have s:=t.out.swap (i:=f) (j:=l) γ γ γ;obtain ⟨x2,E⟩:∃ x,x=d1[l]!:=⟨_,rfl⟩;obtain ⟨y2,F⟩:∃ y,y=d1[f]!:=⟨_,rfl⟩;rw [← E,← F] at s;rw [← E] at r4;rw [← F] at r5;have J:Hid (SrtW w ((C.setCell ⟨g,o+f,none⟩ (I (x2:Int))).setCell ⟨g,o+l,none⟩ (I (y2:Int))) g o (Sort.swp d1 f l)):=s;have L:Hid ((∀ k,k<(Sort.swp d1 f l).size→(Sort.swp d1 f l)[k]! < N)∧(Sort.swp d1 f l).size=n):=⟨Jv D.out.1 γ γ,(Sort.size_swp ..).trans X⟩;have aj:f≠l:=γ;have t3:(f:Int)<(n:Int):=γ;have t4:(0:Int)≤(f:Int):=γ;have t5:¬ (l:Int)<(f:Int):=γ;clear E F s;go_wp2;go_region
         all_goals
          go_wp2;go_roundg (l - 1+1 - (f+1))
          case measure=>omega
          case rel=>exact ⟨f+1,l - 1,Sort.swp d1 f l,γ,γ,γ,rfl,σ,σ,J.out.kept (Qg (Qe _)),L.out.1,L.out.2,a6.out⟩
       ·have t2:¬ (f:Int)≤(l:Int):=γ;have t5:(l:Int)<(f:Int):=γ;go_wp2;obtain ⟨A,B⟩:=kcn wr;refine wk ?_;repeat (go_big_quiet_step (fail))
        refine kq1 (fun C hq=>?_);clear A B
        have HX:Hid (l=Sort.scanDown (fun x=>ltF m d1[a]! x) d1 f j):=by
         have:l=Sort.scanDown (fun x=>ltF m d1[a]! x) d1 f j:=by
          rw [← V.out];exact (Go.Proofs.scanDown_end _ d1 f l (Or.inl h2)).symm
         exact this
        have HE:Hid (T=(f,d1)):=by
         have:T=(f,d1):=by
          rw [← D.out.2.2];exact Go.Proofs.partEq_break (ltF m) a i j d1 HI.out HX.out γ
         exact this
        have t:Hid (SrtW w C g o d1):=H2.out.kept hq;clear hq;go_wp2;go_ret;rw [HE.out];exact ⟨rfl,t.out⟩
     ·have K:decide (c<0)=false:=decide_eq_false q;go_wp2;obtain ⟨A,B⟩:=kcn wr;refine wk ?_;repeat (go_big_quiet_step ((go_at_call 67;exact Qf (G.out _ (Kin.h _)))))
      refine kq1 (fun C hq=>?_);clear A B;clear R Q Z Y;go_wp2;go_roundg (j+1 - (f+1))
      case measure=>omega
      case rel=>exact ⟨f+1,γ,γ,rfl,σ,H2.out.kept hq,by rw [← HU.out];exact (Go.Proofs.scanUp_go _ d1 j f h1 (by rw [p.out,K];rfl)).symm⟩
    ·have t1:¬ (f:Int)≤(j:Int):=γ;go_wp2;obtain ⟨A,B⟩:=kcn wr;refine wk ?_;repeat (go_big_quiet_step (fail))
     refine kq1 (fun C hq=>?_);clear A B
     have HI:Hid (f=Sort.scanUp (fun x => !ltF m d1[a]! x) d1 j i):=by
      have:f=Sort.scanUp (fun x => !ltF m d1[a]! x) d1 j i:=by
       rw [← HU.out];exact (Go.Proofs.scanUp_end _ d1 j f (Or.inl h1)).symm
      exact this
     have t:Hid (SrtW w C g o d1):=H2.out.kept hq;clear hq HU H2;go_wp2;go_loopg [12] j (fun gk U wx=>∃ l:Nat,l≤j∧f≤l+1∧l=gk∧U=I (l:Int)∧SrtW w wx g o d1∧Sort.scanDown (fun x=>ltF m d1[a]! x) d1 f l=Sort.scanDown (fun x=>ltF m d1[a]! x) d1 f j)
     case atStart=>exact ⟨j,Nr _,γ,rfl,rfl,t.out,rfl⟩
     case round =>
      clear t;obtain ⟨l,ag,ah,rfl,rfl,z,O⟩:=hrel;have H2:Hid (SrtW w wr g o d1):=z;have V:Hid (Sort.scanDown (fun x=>ltF m d1[a]! x) d1 f l=Sort.scanDown (fun x=>ltF m d1[a]! x) d1 f j):=O;clear z O;by_cases h2:f≤l
      ·have t2:(f:Int)≤(l:Int):=γ;have X:=D.out.2.1;obtain ⟨R,Z⟩:=H2.out.row l γ;obtain ⟨Q,Y⟩:=H2.out.row a γ;have lk:=D.out.1 l γ;have P:=D.out.1 a γ;have zh:=H2.out.lt;obtain ⟨u,H⟩:∃ u,u=d1[a]!:=⟨_,rfl⟩;obtain ⟨v,hv⟩:∃ v,v=d1[l]!:=⟨_,rfl⟩;rw [← hv] at R lk;rw [← H] at Q P;have M:Hid (u=d1[a]! ∧ v=d1[l]!):=⟨H,hv⟩;have G:Hid (∀ W:World,Bl wr W→Rt 67 #[rv,I (u:Int),I (v:Int)] W (I (m u v))):=fun W hW=>HC.out W (H2.out.kept hW).gr u v P lk;obtain ⟨c,r⟩:∃ c,c=m u v:=⟨_,rfl⟩
       have p:Hid (ltF m d1[a]! d1[l]! = decide (c<0)):=by
        have:ltF m d1[a]! d1[l]! = decide (c<0):=by rw [r,H,hv];rfl
        exact this
       rw [← r] at G;have iK:(l:Int)<(n:Int):=γ;have kK:(0:Int)≤(l:Int):=γ;clear H hv r lk P;by_cases q:c<0
       ·have K:decide (c<0)=true:=decide_eq_true q;go_wp2;obtain ⟨A,B⟩:=kcn wr;refine wk ?_;repeat (go_big_quiet_step ((go_at_call 67;exact Qf (G.out _ (Kin.h _)))))
        refine kq1 (fun C hq=>?_);clear A B;clear R Q Z Y;go_wp2;go_roundg (l - 1)
        case measure=>omega
        case rel=>exact ⟨l - 1,γ,γ,rfl,σ,H2.out.kept hq,by rw [← V.out];exact (Go.Proofs.scanDown_go _ d1 f l h2 γ (by rw [p.out];exact K)).symm⟩
       ·have K:decide (c<0)=false:=decide_eq_false q;go_wp2;obtain ⟨A,B⟩:=kcn wr;refine wk ?_;repeat (go_big_quiet_step ((go_at_call 67;exact Qf (G.out _ (Kin.h _)))))
        refine kq1 (fun C hq=>?_);clear A B
        have HX:Hid (l=Sort.scanDown (fun x=>ltF m d1[a]! x) d1 f j):=by
         have:l=Sort.scanDown (fun x=>ltF m d1[a]! x) d1 f j:=by
          rw [← V.out];exact (Go.Proofs.scanDown_end _ d1 f l (Or.inr (by rw [p.out];exact K))).symm
         exact this
        have ai:f<l:=Go.Proofs.scans_lt (ltF m) a i j d1 γ HI.out HX.out h2
        have a6:Hid (Sort.partEqLoop (ltF m) a (f+1) (l - 1) (Sort.swp d1 f l)=T):=by
         have:Sort.partEqLoop (ltF m) a (f+1) (l - 1) (Sort.swp d1 f l)=T:=by
          rw [← D.out.2.2];exact (Go.Proofs.partEq_go (ltF m) a i j d1 HI.out HX.out γ).symm
         exact this
        have t:Hid (SrtW w C g o d1):=H2.out.kept hq;clear R Q Z Y hq G M p V H2;obtain ⟨r4,f4⟩:=t.out.row l γ;obtain ⟨r5,f5⟩:=t.out.row f γ;have zq:=t.out.lt;have s:=t.out.swap (i:=f) (j:=l) γ γ γ;obtain ⟨x2,E⟩:∃ x,x=d1[l]!:=⟨_,rfl⟩;obtain ⟨y2,F⟩:∃ y,y=d1[f]!:=⟨_,rfl⟩;rw [← E,← F] at s;rw [← E] at r4;rw [← F] at r5;have J:Hid (SrtW w ((C.setCell ⟨g,o+f,none⟩ (I (x2:Int))).setCell ⟨g,o+l,none⟩ (I (y2:Int))) g o (Sort.swp d1 f l)):=s;have L:Hid ((∀ k,k<(Sort.swp d1 f l).size→(Sort.swp d1 f l)[k]! < N)∧(Sort.swp d1 f l).size=n):=⟨Jv D.out.1 γ γ,(Sort.size_swp ..).trans X⟩;have aj:f≠l:=γ;have t3:(f:Int)<(n:Int):=γ;have t4:(0:Int)≤(f:Int):=γ;have t5:¬ (l:Int)<(f:Int):=γ;clear E F s;go_wp2;go_region
        all_goals
         go_wp2;go_roundg (l - 1+1 - (f+1))
         case measure=>omega
         case rel=>exact ⟨f+1,l - 1,Sort.swp d1 f l,γ,γ,γ,rfl,σ,σ,J.out.kept (Qg (Qe _)),L.out.1,L.out.2,a6.out⟩
      ·have t2:¬ (f:Int)≤(l:Int):=γ;have t5:(l:Int)<(f:Int):=γ;go_wp2;obtain ⟨A,B⟩:=kcn wr;refine wk ?_;repeat (go_big_quiet_step (fail))
       refine kq1 (fun C hq=>?_);clear A B
       have HX:Hid (l=Sort.scanDown (fun x=>ltF m d1[a]! x) d1 f j):=by
        have:l=Sort.scanDown (fun x=>ltF m d1[a]! x) d1 f j:=by
         rw [← V.out];exact (Go.Proofs.scanDown_end _ d1 f l (Or.inl h2)).symm
        exact this
       have HE:Hid (T=(f,d1)):=by
        have:T=(f,d1):=by
         rw [← D.out.2.2];exact Go.Proofs.partEq_break (ltF m) a i j d1 HI.out HX.out γ
        exact this
       have t:Hid (SrtW w C g o d1):=H2.out.kept hq;clear hq;go_wp2;go_ret;rw [HE.out];exact ⟨rfl,t.out⟩
def partF (a:Nat) (r:Nat×Array Nat):Nat×Bool×Array Nat:=(r.1,false,Sort.swp r.2 r.1 a)
theorem part_any (w:World) (g o n ag a b pv N:Nat) (rv:Value) (s:Nat→Nat→Int) (hc:CmpF w g N rv s) (d:Array Nat) (hd:d.size=n) (hN:∀ k,k<d.size→d[k]! < N) (ao:a<pv) (au:pv<b) (ap:b≤n) (hn:n≤300) (w1:World) (hw:SrtW w w1 g o d) :
  Cl 174 #[.slice (Ad g o) n ag,I (a:Int),I (b:Int),I (pv:Int),.func (.func 67) #[rv] #[]] w1 fun e w'=>e=.returned (.tuple #[I ((Sort.partition (ltF s) d a b pv).1:Int),.bool (Sort.partition (ltF s) d a b pv).2.1])∧SrtW w w' g o (Sort.partition (ltF s) d a b pv).2.2:=by
 have HC:=Hd hc;have ar:a≠pv:=γ;obtain ⟨r1,f1⟩:=hw.row pv γ;obtain ⟨r0,f0⟩:=hw.row a γ;have zg:=hw.lt;obtain ⟨x,hx⟩:∃ x,x=d[pv]!:=⟨_,rfl⟩;obtain ⟨y,hy⟩:∃ y,y=d[a]!:=⟨_,rfl⟩;have t:=hw.swp_any (i:=a) (j:=pv) γ γ;rw [← hx,← hy] at t;rw [← hx] at r1;rw [← hy] at r0;obtain ⟨D,ah⟩:∃ D,b=D+1:=⟨b - 1,γ⟩;subst ah;obtain ⟨T,hT⟩:∃ T,T=Sort.partition (ltF s) d a (D+1) pv:=⟨_,rfl⟩;obtain ⟨d1,O⟩:∃ d1,d1=Sort.swp d a pv:=⟨_,rfl⟩;rw [← O] at t;have ab:=Hd t;have HM:Hid ((∀ k,k<d1.size→d1[k]! < N)∧d1.size=n∧d1=Sort.swp d a pv∧T=Sort.partition (ltF s) d a (D+1) pv):=⟨O ▸ Jv hN γ γ,O ▸ (Sort.size_swp ..).trans hd,O,hT⟩;rw [← hT];have i2:(a:Int)<(n:Int):=γ;have av:(pv:Int)<(n:Int):=γ;have k2:(0:Int)≤(a:Int):=γ;have k3:(0:Int)≤(pv:Int):=γ;have a8:a+1≤D+1:=γ;clear hc hw hN hd hT hx hy t O;go_enter Tryz.func174,Tryz.ntmps174;go_upto_region 1 with fail
 go_cut [10] (fun am L=>am=I 0∧SrtW w L g o d1)
 case first =>
  go_region
  all_goals
   go_wp2;go_meet
   case rel=>exact ⟨rfl,ab.out.kept (Qg (Qe _))⟩
 case rest =>
  clear ab r1 f1 r0 f0 zg;obtain ⟨rfl,ad⟩:=hcut;have R:=Hd ad;clear ad;go_upto_block 0 with fail
  go_cut [12] (fun si L=>∃ p:Nat,si=I (p:Int)∧(a+1)≤p∧p≤D+1∧SrtW w L g o d1∧p=Sort.scanUp (fun x=>ltF s x d1[a]!) d1 D (a+1))
  case first =>
   go_wp2;go_loopg [12] (D+1 - (a+1)) (fun gk si L=>∃ p:Nat,(a+1)≤p∧p≤D+1∧gk=D+1 - p∧si=I (p:Int)∧SrtW w L g o d1∧Sort.scanUp (fun x=>ltF s x d1[a]!) d1 D p=Sort.scanUp (fun x=>ltF s x d1[a]!) d1 D (a+1))
   case atStart=>exact ⟨(a+1),Nr _,a8,rfl,δ0,R.out,rfl⟩
   case round =>
    clear R;obtain ⟨p,U,V,rfl,rfl,r,G⟩:=hrel;have H2:=Hd r;have HU:=Hd G;clear r G;by_cases h1:p≤D
    ·have t1:(p:Int)≤(D:Int):=γ;have P:=HM.out.2.1;obtain ⟨rk,fk⟩:=H2.out.row p γ;obtain ⟨ra,fa⟩:=H2.out.row a γ;have lk:=HM.out.1 p γ;have la:=HM.out.1 a γ;have zh:=H2.out.lt;obtain ⟨u,Z⟩:∃ u,u=d1[a]!:=⟨_,rfl⟩;obtain ⟨v,hv⟩:∃ v,v=d1[p]!:=⟨_,rfl⟩;rw [← hv] at rk lk;rw [← Z] at ra la;have Q:Hid (∀ W:World,Bl wr W→Rt 67 #[rv,I (v:Int),I (u:Int)] W (I (s v u))):=fun W hW=>HC.out W (H2.out.kept hW).gr v u lk la;obtain ⟨c,C⟩:∃ c,c=s v u:=⟨_,rfl⟩
     have E:Hid (ltF s d1[p]! d1[a]! = decide (c<0)):=by
      have:ltF s d1[p]! d1[a]! = decide (c<0):=by rw [C,Z,hv];rfl
      exact this
     rw [← C] at Q;have iK:(p:Int)<(n:Int):=γ;have kK:(0:Int)≤(p:Int):=γ;clear Z hv C lk la;by_cases q:c<0
     ·have qb:decide (c<0)=true:=decide_eq_true q;go_wp2;obtain ⟨J,K⟩:=kcn wr;refine wk ?_;repeat (go_big_quiet_step ((go_at_call 67;exact Qf (Q.out _ (Kin.h _)))))
      refine kq1 (fun wq hq=>?_);clear J K;clear rk ra fk fa;go_wp2;go_roundg (D+1 - (p+1))
      case measure=>omega
      case rel=>exact ⟨p+1,γ,γ,rfl,σ,H2.out.kept hq,by rw [← HU.out];exact (Go.Proofs.scanUp_go _ d1 D p h1 (by rw [E.out];exact qb)).symm⟩
     ·have qb:decide (c<0)=false:=decide_eq_false q;go_wp2;obtain ⟨J,K⟩:=kcn wr;refine wk ?_;repeat (go_big_quiet_step ((go_at_call 67;exact Qf (Q.out _ (Kin.h _)))))
      refine kq1 (fun wq hq=>?_);clear J K;clear rk ra fk fa;go_wp2;go_meet
      case rel=>exact ⟨p,rfl,U,V,H2.out.kept hq,by rw [← HU.out];exact (Go.Proofs.scanUp_end _ d1 D p (Or.inr (by rw [E.out];exact qb))).symm⟩
    ·have t1:¬ (p:Int)≤(D:Int):=γ;go_wp2;obtain ⟨J,K⟩:=kcn wr;refine wk ?_;repeat (go_big_quiet_step (fail))
     refine kq1 (fun wq hq=>?_);clear J K;go_wp2;go_meet
     case rel=>exact ⟨p,rfl,U,V,H2.out.kept hq,by rw [← HU.out];exact (Go.Proofs.scanUp_end _ d1 D p (Or.inl h1)).symm⟩
  case rest =>
   clear R;obtain ⟨p,rfl,U,V,r,G⟩:=hcut;have R:=Hd r;have HI:=Hd G;clear r G;go_upto_block 2 with fail
   go_cut [13] (fun sj L=>∃ l:Nat,sj=I (l:Int)∧l≤D∧p≤l+1∧SrtW w L g o d1∧l=Sort.scanDown (fun x => !ltF s x d1[a]!) d1 p D)
   case first =>
    go_wp2;go_loopg [13] D (fun gk sj L=>∃ l:Nat,l≤D∧p≤l+1∧l=gk∧sj=I (l:Int)∧SrtW w L g o d1∧Sort.scanDown (fun x => !ltF s x d1[a]!) d1 p l=Sort.scanDown (fun x => !ltF s x d1[a]!) d1 p D)
    case atStart=>exact ⟨D,Nr _,γ,rfl,δ0,R.out,rfl⟩
    case round =>
     clear R;obtain ⟨l,X,Y,rfl,rfl,r,H⟩:=hrel;have H2:=Hd r;have HJ:=Hd H;clear r H;by_cases h2:p≤l
     ·have t2:(p:Int)≤(l:Int):=γ;have P:=HM.out.2.1;obtain ⟨rk,fk⟩:=H2.out.row l γ;obtain ⟨ra,fa⟩:=H2.out.row a γ;have lk:=HM.out.1 l γ;have la:=HM.out.1 a γ;have zh:=H2.out.lt;obtain ⟨u,Z⟩:∃ u,u=d1[a]!:=⟨_,rfl⟩;obtain ⟨v,hv⟩:∃ v,v=d1[l]!:=⟨_,rfl⟩;rw [← hv] at rk lk;rw [← Z] at ra la;have Q:Hid (∀ W:World,Bl wr W→Rt 67 #[rv,I (v:Int),I (u:Int)] W (I (s v u))):=fun W hW=>HC.out W (H2.out.kept hW).gr v u lk la;obtain ⟨c,C⟩:∃ c,c=s v u:=⟨_,rfl⟩
      have E:Hid (ltF s d1[l]! d1[a]! = decide (c<0)):=by
       have:ltF s d1[l]! d1[a]! = decide (c<0):=by rw [C,Z,hv];rfl
       exact this
      rw [← C] at Q;have iK:(l:Int)<(n:Int):=γ;have kK:(0:Int)≤(l:Int):=γ;clear Z hv C lk la;by_cases q:c<0
      ·have qb:decide (c<0)=true:=decide_eq_true q;go_wp2;obtain ⟨J,K⟩:=kcn wr;refine wk ?_;repeat (go_big_quiet_step ((go_at_call 67;exact Qf (Q.out _ (Kin.h _)))))
       refine kq1 (fun wq hq=>?_);clear J K;clear rk ra fk fa;go_wp2;go_meet
       case rel=>exact ⟨l,rfl,X,Y,H2.out.kept hq,by rw [← HJ.out];exact (Go.Proofs.scanDown_end _ d1 p l (Or.inr (by rw [E.out,qb];rfl))).symm⟩
      ·have qb:decide (c<0)=false:=decide_eq_false q;go_wp2;obtain ⟨J,K⟩:=kcn wr;refine wk ?_;repeat (go_big_quiet_step ((go_at_call 67;exact Qf (Q.out _ (Kin.h _)))))
       refine kq1 (fun wq hq=>?_);clear J K;clear rk ra fk fa;go_wp2;go_roundg (l - 1)
       case measure=>omega
       case rel=>exact ⟨l - 1,γ,γ,rfl,σ,H2.out.kept hq,by rw [← HJ.out];exact (Go.Proofs.scanDown_go _ d1 p l h2 γ (by rw [E.out,qb];rfl)).symm⟩
     ·have t2:¬ (p:Int)≤(l:Int):=γ;go_wp2;obtain ⟨J,K⟩:=kcn wr;refine wk ?_;repeat (go_big_quiet_step (fail))
      refine kq1 (fun wq hq=>?_);clear J K;go_wp2;go_meet
      case rel=>exact ⟨l,rfl,X,Y,H2.out.kept hq,by rw [← HJ.out];exact (Go.Proofs.scanDown_end _ d1 p l (Or.inl h2)).symm⟩
   case rest =>
    clear R;obtain ⟨l,rfl,X,Y,r,H⟩:=hcut;have M:=Hd r;have HX:=Hd H;have P:=HM.out.2.1;clear r H;by_cases h9:p≤l
    ·skip
     have a7:Hid (partF a (Sort.partLoop (ltF s) a (p+1) (l - 1) (Sort.swp d1 p l))=T):=by
      have:partF a (Sort.partLoop (ltF s) a (p+1) (l - 1) (Sort.swp d1 p l))=T:=(HM.out.2.2.2.trans (Go.Proofs.part_first_go (ltF s) d a (D+1) pv rfl rfl HM.out.2.2.1 HI.out HX.out γ)).symm;exact this
     have ai:p<l:=Go.Proofs.part_scans_lt (ltF s) a (a+1) D d1 γ HI.out HX.out γ;obtain ⟨r4,f4⟩:=M.out.row l γ;obtain ⟨r5,f5⟩:=M.out.row p γ;have zq:=M.out.lt;have t:=M.out.swap (i:=p) (j:=l) γ γ γ;obtain ⟨x2,z⟩:∃ x,x=d1[l]!:=⟨_,rfl⟩;obtain ⟨y2,A⟩:∃ y,y=d1[p]!:=⟨_,rfl⟩;rw [← z,← A] at t;rw [← z] at r4;rw [← A] at r5;have B:=Hd t;have a2:Hid ((∀ k,k<(Sort.swp d1 p l).size→(Sort.swp d1 p l)[k]! < N)∧(Sort.swp d1 p l).size=n):=⟨Jv HM.out.1 γ γ,(Sort.size_swp ..).trans P⟩;have aj:p≠l:=γ;have ak:l≠p:=γ;have t3:(p:Int)<(n:Int):=γ;have t4:(0:Int)≤(p:Int):=γ;have t6:(l:Int)<(n:Int):=γ;have t7:(0:Int)≤(l:Int):=γ;have t5:¬ (l:Int)<(p:Int):=γ;clear z A t;go_upto_region 10 with fail
     go_cut [12,13] (fun si sj L=>si=I (p:Int)∧sj=I (l:Int)∧SrtW w L g o (Sort.swp d1 p l))
     case first =>
      go_region
      all_goals
       go_wp2;go_meet
       case rel=>exact ⟨rfl,rfl,B.out.kept (Qg (Qe _))⟩
     case rest =>
      clear B r4 f4 r5 f5 M zq;obtain ⟨rfl,rfl,a6⟩:=hcut;have B:=Hd a6;clear a6;go_wp2;go_loopg [12,13] (l - 1+1 - (p+1)) (fun gk si sj L=>∃ (i3 j3:Nat) (d3:Array Nat),a+1≤i3∧i3≤j3+1∧j3≤D∧gk=j3+1 - i3∧si=I (i3:Int)∧sj=I (j3:Int)∧SrtW w L g o d3∧(∀ k,k<d3.size→d3[k]! < N)∧d3.size=n∧partF a (Sort.partLoop (ltF s) a i3 j3 d3)=T)
      case atStart=>exact ⟨p+1,l - 1,Sort.swp d1 p l,γ,γ,γ,rfl,σ,σ,B.out,a2.out.1,a2.out.2,a7.out⟩
      case round =>
       clear B a2 a7 HX HI HM P;obtain ⟨i3,j3,d3,an,a8,aq,rfl,rfl,rfl,hS,ac,O,ae⟩:=hrel;have R:=Hd hS;have F:=H3 ac O ae;clear hS ac O ae;go_upto_block 6 with fail
       go_cut [12] (fun si L=>∃ m:Nat,si=I (m:Int)∧i3≤m∧m≤j3+1∧SrtW w L g o d3∧m=Sort.scanUp (fun x=>ltF s x d3[a]!) d3 j3 i3)
       case first =>
        go_wp2;go_loopg [12] (j3+1 - i3) (fun gk si L=>∃ m:Nat,i3≤m∧m≤j3+1∧gk=j3+1 - m∧si=I (m:Int)∧SrtW w L g o d3∧Sort.scanUp (fun x=>ltF s x d3[a]!) d3 j3 m=Sort.scanUp (fun x=>ltF s x d3[a]!) d3 j3 i3)
        case atStart=>exact ⟨i3,Nr _,a8,rfl,δ0,R.out,rfl⟩
        case round =>
         clear R;obtain ⟨m,U,V,rfl,rfl,r,G⟩:=hrel;have H2:=Hd r;have HU:=Hd G;clear r G;by_cases h1:m≤j3
         ·have t1:(m:Int)≤(j3:Int):=γ;have P:=F.out.2.1;obtain ⟨rk,fk⟩:=H2.out.row m γ;obtain ⟨ra,fa⟩:=H2.out.row a γ;have lk:=F.out.1 m γ;have la:=F.out.1 a γ;have zh:=H2.out.lt;obtain ⟨u,Z⟩:∃ u,u=d3[a]!:=⟨_,rfl⟩;obtain ⟨v,hv⟩:∃ v,v=d3[m]!:=⟨_,rfl⟩;rw [← hv] at rk lk;rw [← Z] at ra la;have Q:Hid (∀ W:World,Bl wr W→Rt 67 #[rv,I (v:Int),I (u:Int)] W (I (s v u))):=fun W hW=>HC.out W (H2.out.kept hW).gr v u lk la;obtain ⟨c,C⟩:∃ c,c=s v u:=⟨_,rfl⟩
          have E:Hid (ltF s d3[m]! d3[a]! = decide (c<0)):=by
           have:ltF s d3[m]! d3[a]! = decide (c<0):=by rw [C,Z,hv];rfl
           exact this
          rw [← C] at Q;have iK:(m:Int)<(n:Int):=γ;have kK:(0:Int)≤(m:Int):=γ;clear Z hv C lk la;by_cases q:c<0
          ·have qb:decide (c<0)=true:=decide_eq_true q;go_wp2;obtain ⟨J,K⟩:=kcn wr;refine wk ?_;repeat (go_big_quiet_step ((go_at_call 67;exact Qf (Q.out _ (Kin.h _)))))
           refine kq1 (fun wq hq=>?_);clear J K;clear rk ra fk fa;go_wp2;go_roundg (j3+1 - (m+1))
           case measure=>omega
           case rel=>exact ⟨m+1,γ,γ,rfl,σ,H2.out.kept hq,by rw [← HU.out];exact (Go.Proofs.scanUp_go _ d3 j3 m h1 (by rw [E.out];exact qb)).symm⟩
          ·have qb:decide (c<0)=false:=decide_eq_false q;go_wp2;obtain ⟨J,K⟩:=kcn wr;refine wk ?_;repeat (go_big_quiet_step ((go_at_call 67;exact Qf (Q.out _ (Kin.h _)))))
           refine kq1 (fun wq hq=>?_);clear J K;clear rk ra fk fa;go_wp2;go_meet
           case rel=>exact ⟨m,rfl,U,V,H2.out.kept hq,by rw [← HU.out];exact (Go.Proofs.scanUp_end _ d3 j3 m (Or.inr (by rw [E.out];exact qb))).symm⟩
         ·have t1:¬ (m:Int)≤(j3:Int):=γ;go_wp2;obtain ⟨J,K⟩:=kcn wr;refine wk ?_;repeat (go_big_quiet_step (fail))
          refine kq1 (fun wq hq=>?_);clear J K;go_wp2;go_meet
          case rel=>exact ⟨m,rfl,U,V,H2.out.kept hq,by rw [← HU.out];exact (Go.Proofs.scanUp_end _ d3 j3 m (Or.inl h1)).symm⟩
       case rest =>
        clear R;obtain ⟨m,rfl,U,V,r,G⟩:=hcut;have R:=Hd r;have HI:=Hd G;clear r G;go_upto_block 8 with fail
        go_cut [13] (fun sj L=>∃ f:Nat,sj=I (f:Int)∧f≤j3∧m≤f+1∧SrtW w L g o d3∧f=Sort.scanDown (fun x => !ltF s x d3[a]!) d3 m j3)
        case first =>
         go_wp2;go_loopg [13] j3 (fun gk sj L=>∃ f:Nat,f≤j3∧m≤f+1∧f=gk∧sj=I (f:Int)∧SrtW w L g o d3∧Sort.scanDown (fun x => !ltF s x d3[a]!) d3 m f=Sort.scanDown (fun x => !ltF s x d3[a]!) d3 m j3)
         case atStart=>exact ⟨j3,Nr _,γ,rfl,δ0,R.out,rfl⟩
         case round =>
          clear R;obtain ⟨f,X,Y,rfl,rfl,r,H⟩:=hrel;have H2:=Hd r;have HJ:=Hd H;clear r H;by_cases h2:m≤f
          ·have t2:(m:Int)≤(f:Int):=γ;have P:=F.out.2.1;obtain ⟨rk,fk⟩:=H2.out.row f γ;obtain ⟨ra,fa⟩:=H2.out.row a γ;have lk:=F.out.1 f γ;have la:=F.out.1 a γ;have zh:=H2.out.lt;obtain ⟨u,Z⟩:∃ u,u=d3[a]!:=⟨_,rfl⟩;obtain ⟨v,hv⟩:∃ v,v=d3[f]!:=⟨_,rfl⟩;rw [← hv] at rk lk;rw [← Z] at ra la;have Q:Hid (∀ W:World,Bl wr W→Rt 67 #[rv,I (v:Int),I (u:Int)] W (I (s v u))):=fun W hW=>HC.out W (H2.out.kept hW).gr v u lk la;obtain ⟨c,C⟩:∃ c,c=s v u:=⟨_,rfl⟩
           have E:Hid (ltF s d3[f]! d3[a]! = decide (c<0)):=by
            have:ltF s d3[f]! d3[a]! = decide (c<0):=by rw [C,Z,hv];rfl
            exact this
           rw [← C] at Q;have iK:(f:Int)<(n:Int):=γ;have kK:(0:Int)≤(f:Int):=γ;clear Z hv C lk la;by_cases q:c<0
           ·have qb:decide (c<0)=true:=decide_eq_true q;go_wp2;obtain ⟨J,K⟩:=kcn wr;refine wk ?_;repeat (go_big_quiet_step ((go_at_call 67;exact Qf (Q.out _ (Kin.h _)))))
            refine kq1 (fun wq hq=>?_);clear J K;clear rk ra fk fa;go_wp2;go_meet
            case rel=>exact ⟨f,rfl,X,Y,H2.out.kept hq,by rw [← HJ.out];exact (Go.Proofs.scanDown_end _ d3 m f (Or.inr (by rw [E.out,qb];rfl))).symm⟩
           ·have qb:decide (c<0)=false:=decide_eq_false q;go_wp2;obtain ⟨J,K⟩:=kcn wr;refine wk ?_;repeat (go_big_quiet_step ((go_at_call 67;exact Qf (Q.out _ (Kin.h _)))))
            refine kq1 (fun wq hq=>?_);clear J K;clear rk ra fk fa;go_wp2;go_roundg (f - 1)
            case measure=>omega
            case rel=>exact ⟨f - 1,γ,γ,rfl,σ,H2.out.kept hq,by rw [← HJ.out];exact (Go.Proofs.scanDown_go _ d3 m f h2 γ (by rw [E.out,qb];rfl)).symm⟩
          ·have t2:¬ (m:Int)≤(f:Int):=γ;go_wp2;obtain ⟨J,K⟩:=kcn wr;refine wk ?_;repeat (go_big_quiet_step (fail))
           refine kq1 (fun wq hq=>?_);clear J K;go_wp2;go_meet
           case rel=>exact ⟨f,rfl,X,Y,H2.out.kept hq,by rw [← HJ.out];exact (Go.Proofs.scanDown_end _ d3 m f (Or.inl h2)).symm⟩
        case rest =>
         clear R;obtain ⟨f,rfl,X,Y,r,H⟩:=hcut;have M:=Hd r;have HX:=Hd H;have P:=F.out.2.1;clear r H;by_cases h9:m≤f
         ·skip
          have a7:Hid (partF a (Sort.partLoop (ltF s) a (m+1) (f - 1) (Sort.swp d3 m f))=T):=by
           have:partF a (Sort.partLoop (ltF s) a (m+1) (f - 1) (Sort.swp d3 m f))=T:=by
            rw [← F.out.2.2,Go.Proofs.part_go (ltF s) a i3 j3 d3 HI.out HX.out γ]
           exact this
          have ai:m<f:=Go.Proofs.part_scans_lt (ltF s) a i3 j3 d3 γ HI.out HX.out γ;obtain ⟨r4,f4⟩:=M.out.row f γ;obtain ⟨r5,f5⟩:=M.out.row m γ;have zq:=M.out.lt;have t:=M.out.swap (i:=m) (j:=f) γ γ γ;obtain ⟨x2,z⟩:∃ x,x=d3[f]!:=⟨_,rfl⟩;obtain ⟨y2,A⟩:∃ y,y=d3[m]!:=⟨_,rfl⟩;rw [← z,← A] at t;rw [← z] at r4;rw [← A] at r5;have B:=Hd t;have a2:Hid ((∀ k,k<(Sort.swp d3 m f).size→(Sort.swp d3 m f)[k]! < N)∧(Sort.swp d3 m f).size=n):=⟨Jv F.out.1 γ γ,(Sort.size_swp ..).trans P⟩;have aj:m≠f:=γ;have ak:f≠m:=γ;have t3:(m:Int)<(n:Int):=γ;have t4:(0:Int)≤(m:Int):=γ;have t6:(f:Int)<(n:Int):=γ;have t7:(0:Int)≤(f:Int):=γ;have t5:¬ (f:Int)<(m:Int):=γ;clear z A t;go_upto_region 18 with fail
          go_cut [12,13] (fun si sj L=>si=I (m:Int)∧sj=I (f:Int)∧SrtW w L g o (Sort.swp d3 m f))
          case first =>
           go_region
           all_goals
            go_wp2;go_meet
            case rel=>exact ⟨rfl,rfl,B.out.kept (Qg (Qe _))⟩
          case rest =>
           clear B r4 f4 r5 f5 M zq;obtain ⟨rfl,rfl,a6⟩:=hcut;have B:=Hd a6;clear a6;go_wp2;go_roundg (f - 1+1 - (m+1))
           case measure=>omega
           case rel=>exact ⟨m+1,f - 1,Sort.swp d3 m f,γ,γ,γ,rfl,σ,σ,B.out,a2.out.1,a2.out.2,a7.out⟩
         ·skip
          have HE:Hid (T=(f,false,Sort.swp d3 f a)):=by
           have:T=(f,false,Sort.swp d3 f a):=by
            rw [← F.out.2.2,Go.Proofs.part_break (ltF s) a i3 j3 d3 HI.out HX.out γ];rfl
           exact this
          have t5:(f:Int)<(m:Int):=γ;clear HX HI F;obtain ⟨r4,f4⟩:=M.out.row f γ;obtain ⟨r5,f5⟩:=M.out.row a γ;have zq:=M.out.lt;have t:=M.out.swp_any (i:=f) (j:=a) γ γ;obtain ⟨x2,z⟩:∃ x,x=d3[a]!:=⟨_,rfl⟩;obtain ⟨y2,A⟩:∃ y,y=d3[f]!:=⟨_,rfl⟩;rw [← z,← A] at t;rw [← z] at r5;rw [← A] at r4;have B:=Hd t;have iJ:(f:Int)<(n:Int):=γ;have kJ:(0:Int)≤(f:Int):=γ;by_cases nea:f=a
          ·have aa:x2=y2:=by rw [z,A,nea]
           subst aa;rw [nea] at B HE r4 f4;have ea:(f:Int)=(a:Int):=γ;clear r5 f5;rw [ea];clear z A t;go_wp2
           all_goals
            go_region
            all_goals
             go_wp2;go_ret2
             rw [HE.out];exact ⟨rfl,B.out.kept (Qg (Qe _))⟩
          ·have af:¬ a=f:=fun e=>nea e.symm;clear z A t;go_wp2
           all_goals
            go_region
            all_goals
             go_wp2;go_ret2
             rw [HE.out];exact ⟨rfl,B.out.kept (Qg (Qe _))⟩
    ·skip
     have HE:Hid (T=(l,true,Sort.swp d1 l a)):=by
      have:T=(l,true,Sort.swp d1 l a):=HM.out.2.2.2.trans (Go.Proofs.part_first_break (ltF s) d a (D+1) pv rfl rfl HM.out.2.2.1 HI.out HX.out γ);exact this
     have t5:(l:Int)<(p:Int):=γ;clear HX HI HM;obtain ⟨r4,f4⟩:=M.out.row l γ;obtain ⟨r5,f5⟩:=M.out.row a γ;have zq:=M.out.lt;have t:=M.out.swp_any (i:=l) (j:=a) γ γ;obtain ⟨x2,z⟩:∃ x,x=d1[a]!:=⟨_,rfl⟩;obtain ⟨y2,A⟩:∃ y,y=d1[l]!:=⟨_,rfl⟩;rw [← z,← A] at t;rw [← z] at r5;rw [← A] at r4;have B:=Hd t;have iJ:(l:Int)<(n:Int):=γ;have kJ:(0:Int)≤(l:Int):=γ;by_cases nea:l=a
     ·have aa:x2=y2:=by rw [z,A,nea]
      subst aa;rw [nea] at B HE r4 f4;have ea:(l:Int)=(a:Int):=γ;clear r5 f5;rw [ea];clear z A t;go_wp2
      all_goals
       go_region
       all_goals
        go_wp2;go_ret2
        rw [HE.out];exact ⟨rfl,B.out.kept (Qg (Qe _))⟩
     ·have af:¬ a=l:=fun e=>nea e.symm;clear z A t;go_wp2
      all_goals
       go_region
       all_goals
        go_wp2;go_ret2
        rw [HE.out];exact ⟨rfl,B.out.kept (Qg (Qe _))⟩
def dnD (lt:Nat→Nat→Bool) (a i:Nat) (d:Array Nat):Array Nat:=if i - a ≥ 2 then Sort.shiftDown lt (i - 1) d else d
def upD (lt:Nat→Nat→Bool) (b i:Nat) (d:Array Nat):Array Nat:=if b - i ≥ 2 then Sort.shiftUp lt b (i+1) d else d
theorem sS_go {lt:Nat→Nat→Bool} (h:p+1<b) (hl:lt d[p+1]! d[p]! = false):Sort.scanSorted lt d b (p+1)=Sort.scanSorted lt d b (p+1+1):=by
 rw [Sort.scanSorted,Nat.add_sub_cancel,hl];simp [h]
theorem sS_end {lt:Nat→Nat→Bool} (h:¬ p+1<b∨lt d[p+1]! d[p]! = true):Sort.scanSorted lt d b (p+1)=p+1:=by
 rw [Sort.scanSorted,Nat.add_sub_cancel];rcases h with h | h
 ·simp [h]
 ·simp [h]
theorem sD_go {lt:Nat→Nat→Bool} (hl:lt d[p+1]! d[p]! = true):Sort.shiftDown lt (p+1) d=Sort.shiftDown lt p (Sort.swp d (p+1) p):=by
 rw [Sort.shiftDown,hl];rfl
theorem sD_end {lt:Nat→Nat→Bool} (hl:lt d[p+1]! d[p]! = false):Sort.shiftDown lt (p+1) d=d:=by
 rw [Sort.shiftDown,hl];rfl
theorem sU_go {lt:Nat→Nat→Bool} (h:p+1<b) (hl:lt d[p+1]! d[p]! = true):Sort.shiftUp lt b (p+1) d=Sort.shiftUp lt b (p+1+1) (Sort.swp d (p+1) p):=by
 rw [Sort.shiftUp,if_pos h,Nat.add_sub_cancel,hl];rfl
theorem sU_end {lt:Nat→Nat→Bool} (h:¬ p+1<b∨lt d[p+1]! d[p]! = false):Sort.shiftUp lt b (p+1) d=d:=by
 rw [Sort.shiftUp,Nat.add_sub_cancel];by_cases q:p+1<b
 ·rw [if_pos q];rcases h with h | h
  ·exact absurd q h
  ·rw [h];rfl
 ·rw [if_neg q]
theorem pI_done {lt:Nat→Nat→Bool} (h:q=Sort.scanSorted lt d b i) (hb:q=b):Sort.partialIns lt a b (r+1) i d=(d,true):=by
 rw [Sort.partialIns];simp only [← h,hb,if_true]
theorem pI_short {lt:Nat→Nat→Bool} (h:q=Sort.scanSorted lt d b i) (hb:q≠b) (h5:b - a<50):Sort.partialIns lt a b (r+1) i d=(d,false):=by
 rw [Sort.partialIns];simp only [← h,hb,if_false,h5,if_true]
theorem pI_go {lt:Nat→Nat→Bool} (h:q=Sort.scanSorted lt d b i) (hb:q≠b) (h5:¬ b - a<50):Sort.partialIns lt a b (r+1) i d=Sort.partialIns lt a b r q (upD lt b q (dnD lt a q (Sort.swp d q (q - 1)))):=by
 rw [Sort.partialIns];simp only [← h,hb,if_false,h5];rfl
theorem pins_any (w:World) (g o n ap a b N:Nat) (rv:Value) (f:Nat→Nat→Int) (hc:CmpF w g N rv f) (d:Array Nat) (hd:d.size=n) (hN:∀ k,k<d.size→d[k]! < N) (aw:a<b) (ay:b≤n) (hn:n≤300) (w1:World) (hw:SrtW w w1 g o d) :
  Cl 172 #[.slice (Ad g o) n ap,I (a:Int),I (b:Int),.func (.func 67) #[rv] #[]] w1 fun e w'=>e=.returned (.bool (Sort.partialInsertionSort (ltF f) d a b).2)∧SrtW w w' g o (Sort.partialInsertionSort (ltF f) d a b).1:=by
 have HC:Hid (CmpF w g N rv f):=hc;have HW:Hid (SrtW w w1 g o d∧(∀ k,k<d.size→d[k]! < N)∧d.size=n):=⟨hw,hN,hd⟩;obtain ⟨T,hT⟩:∃ T,T=Sort.partialInsertionSort (ltF f) d a b:=⟨_,rfl⟩;have HT:Hid (Sort.partialIns (ltF f) a b 5 (a+1) d=T):=hT.symm;rw [← hT];clear hc hw hN hd hT;go_enter Tryz.func172,Tryz.ntmps172;go_wp2;go_loopg [9,10] 5 (fun gk s9 ar M=>∃ (p st:Nat) (d1:Array Nat),a≤p∧p+1≤b∧gk=5 - st∧st≤5∧s9=I ((p:Int)+1)∧ar=I (st:Int)∧SrtW w M g o d1∧(∀ k,k<d1.size→d1[k]! < N)∧d1.size=n∧Sort.partialIns (ltF f) a b (5 - st) (p+1) d1=T)
 case atStart=>exact ⟨a,0,d,Nr _,γ,rfl,γ,σ,rfl,HW.out.1,HW.out.2.1,HW.out.2.2,HT.out⟩
 case round =>
  clear HW HT;obtain ⟨p,st,d1,ax,aq,rfl,b8,rfl,rfl,hS,a7,a8,X⟩:=hrel;have HS:Hid (SrtW w wr g o d1∧(∀ k,k<d1.size→d1[k]! < N)∧d1.size=n):=⟨hS,a7,a8⟩;by_cases h5:st<5
  ·have t5:(st:Int)<5:=γ;obtain ⟨r,hr⟩:∃ r,r+1=5 - st:=⟨4 - st,γ⟩;have HP:Hid (Sort.partialIns (ltF f) a b (r+1) (p+1) d1=T):=hr ▸ X;clear hS a7 a8 X;go_upto_block 2 with fail
   go_cut [9] (fun s9 M=>∃ q:Nat,s9=I ((q:Int)+1)∧p≤q∧q+1≤b∧SrtW w M g o d1∧q+1=Sort.scanSorted (ltF f) d1 b (p+1))
   case first =>
    go_wp2;go_loopg [9] (b - (p+1)) (fun gk s9 M=>∃ q:Nat,p≤q∧q+1≤b∧gk=b - (q+1)∧s9=I ((q:Int)+1)∧SrtW w M g o d1∧Sort.scanSorted (ltF f) d1 b (q+1)=Sort.scanSorted (ltF f) d1 b (p+1))
    case atStart=>exact ⟨p,Nr _,aq,rfl,rfl,HS.out.1,rfl⟩
    case round =>
     obtain ⟨q,ab,H,rfl,rfl,l,Q⟩:=hrel;have H2:Hid (SrtW w wr g o d1∧(∀ k,k<d1.size→d1[k]! < N)∧d1.size=n):=⟨l,HS.out.2⟩;have HU:Hid (Sort.scanSorted (ltF f) d1 b (q+1)=Sort.scanSorted (ltF f) d1 b (p+1)):=Q;clear l Q HS;by_cases h1:q+1<b
     ·have t1:(q:Int)+1<(b:Int):=γ;have td:decide ((q:Int)+1<(b:Int))=true:=decide_eq_true t1;have J:=H2.out.2.2;obtain ⟨r1,f1⟩:=H2.out.1.row (q+1) γ;obtain ⟨r0,f0⟩:=H2.out.1.row q γ;have l1:=H2.out.2.1 (q+1) γ;have l0:=H2.out.2.1 q γ;have Z:=H2.out.1.lt;obtain ⟨x,B⟩:∃ x,x=d1[q+1]!:=⟨_,rfl⟩;obtain ⟨y,C⟩:∃ y,y=d1[q]!:=⟨_,rfl⟩;rw [← B] at r1 l1;rw [← C] at r0 l0;have A:Hid (x=d1[q+1]! ∧ y=d1[q]!):=⟨B,C⟩;have G:Hid (∀ W:World,Bl wr W→Rt 67 #[rv,I (x:Int),I (y:Int)] W (I (f x y))):=fun W hW=>HC.out W (H2.out.1.kept hW).gr x y l1 l0;obtain ⟨c,m⟩:∃ c,c=f x y:=⟨_,rfl⟩
      have D:Hid (ltF f d1[q+1]! d1[q]! = decide (c<0)):=by
       have:ltF f d1[q+1]! d1[q]! = decide (c<0):=by rw [m,B,C];rfl
       exact this
      rw [← m] at G;have e1:(q:Int)+1 - 1=(q:Int):=γ;have ac:IntKind.i64.wrap ((q:Int)+1 - 1)=(q:Int):=υ;have ad:IntKind.i64.wrap (q:Int)=(q:Int):=υ;have i2:(q:Int)+1<(n:Int):=γ;have i3:(q:Int)<(n:Int):=γ;have k2:(0:Int)≤(q:Int)+1:=γ;have k3:(0:Int)≤(q:Int):=γ;clear B C m l1 l0;by_cases qc:c<0
      ·have V:decide (c<0)=true:=decide_eq_true qc;go_wp2;obtain ⟨K,L⟩:=kcn wr;refine wk ?_;repeat (go_big_quiet_step ((go_at_call 67;exact Qf (G.out _ (Kin.h _)))))
       refine kq1 (fun O hq=>?_);clear K L;clear r1 r0 f1 f0;go_wp2;go_meet
       case rel=>exact ⟨q,rfl,ab,H,H2.out.1.kept hq,by rw [← HU.out];exact (sS_end (Or.inr (by rw [D.out];exact V))).symm⟩
      ·have V:decide (c<0)=false:=decide_eq_false qc;go_wp2;obtain ⟨K,L⟩:=kcn wr;refine wk ?_;repeat (go_big_quiet_step ((go_at_call 67;exact Qf (G.out _ (Kin.h _)))))
       refine kq1 (fun O hq=>?_);clear K L;clear r1 r0 f1 f0;go_wp2;go_roundg (b - (q+1+1))
       case measure=>omega
       case rel=>exact ⟨q+1,γ,γ,rfl,σ,H2.out.1.kept hq,by rw [← HU.out];exact (sS_go h1 (by rw [D.out];exact V)).symm⟩
     ·have t1:¬ (q:Int)+1<(b:Int):=γ;have td:decide ((q:Int)+1<(b:Int))=false:=decide_eq_false t1;go_wp2;obtain ⟨K,L⟩:=kcn wr;refine wk ?_;repeat (go_big_quiet_step (fail))
      refine kq1 (fun O hq=>?_);clear K L;go_wp2;go_meet
      case rel=>exact ⟨q,rfl,ab,H,H2.out.1.kept hq,by rw [← HU.out];exact (sS_end (Or.inl h1)).symm⟩
   case rest =>
    obtain ⟨q,rfl,ab,H,l,Q⟩:=hcut;have H2:Hid (SrtW w wc g o d1∧(∀ k,k<d1.size→d1[k]! < N)∧d1.size=n):=⟨l,HS.out.2⟩;have HX:Hid (q+1=Sort.scanSorted (ltF f) d1 b (p+1)):=Q;clear l Q HS;by_cases hnb:q+1=b
    ·have tb:(q:Int)+1=(b:Int):=γ;have av:((q:Int)+1 == (b:Int))=true:=by simpa using tb
     have HE:Hid (T=(d1,true)):=by
      have:T=(d1,true):=by rw [← HP.out];exact pI_done HX.out hnb
      exact this
     clear HX HP;go_wp2;go_ret;rw [HE.out];exact ⟨rfl,H2.out.1⟩
    ·have tb:¬ (q:Int)+1=(b:Int):=γ;have av:((q:Int)+1 == (b:Int))=false:=by simpa using tb
     by_cases h50:b - a<50
     ·have t6:(b:Int) - (a:Int)<50:=γ;have t7:IntKind.i64.wrap ((b:Int) - (a:Int))<50:=υ
      have HE:Hid (T=(d1,false)):=by
       have:T=(d1,false):=by rw [← HP.out];exact pI_short HX.out hnb h50
       exact this
      clear HX HP;go_wp2;go_ret;rw [HE.out];exact ⟨rfl,H2.out.1⟩
     ·have t6:¬ (b:Int) - (a:Int)<50:=γ;have t7:¬ IntKind.i64.wrap ((b:Int) - (a:Int))<50:=υ;have J:=H2.out.2.2;obtain ⟨r1,f1⟩:=H2.out.1.row (q+1) γ;obtain ⟨r0,f0⟩:=H2.out.1.row q γ;obtain ⟨x,B⟩:∃ x,x=d1[q+1]!:=⟨_,rfl⟩;obtain ⟨y,C⟩:∃ y,y=d1[q]!:=⟨_,rfl⟩;rw [← B] at r1;rw [← C] at r0;have A:Hid (x=d1[q+1]! ∧ y=d1[q]!):=⟨B,C⟩;have zq:=H2.out.1.lt;have ac:IntKind.i64.wrap ((q:Int)+1 - 1)=(q:Int):=υ;have ad:IntKind.i64.wrap (q:Int)=(q:Int):=υ;have i2:(q:Int)+1<(n:Int):=γ;have i3:(q:Int)<(n:Int):=γ;have k2:(0:Int)≤(q:Int)+1:=γ;have k3:(0:Int)≤(q:Int):=γ;have HQ:Hid (SrtW w wc g o d1):=H2.out.1;clear B C;have s:=HQ.out.swap (i:=q+1) (j:=q) γ γ γ;rw [← A.out.1,← A.out.2] at s;have u:Hid (SrtW w ((wc.setCell ⟨g,o+(q+1),none⟩ (I (y:Int))).setCell ⟨g,o+q,none⟩ (I (x:Int))) g o (Sort.swp d1 (q+1) q)):=s;have t:Hid ((∀ z,z<(Sort.swp d1 (q+1) q).size→(Sort.swp d1 (q+1) q)[z]! < N)∧(Sort.swp d1 (q+1) q).size=n):=⟨Jv H2.out.2.1 γ γ,(Sort.size_swp ..).trans J⟩;clear s;have am:¬ q+1=q:=γ;have an:¬ q=q+1:=γ;go_upto_region 11 with fail
      go_cut [9] (fun s0 M=>s0=I ((q:Int)+1)∧SrtW w M g o (Sort.swp d1 (q+1) q))
      case first =>
       go_region
       all_goals
        go_wp2;go_meet
        case rel=>exact ⟨rfl,u.out.kept (Qg (Qe _))⟩
      case rest =>
       clear u HQ r1 r0 f1 f0 zq;obtain ⟨rfl,aj⟩:=hcut;have u:Hid (SrtW w wc g o (Sort.swp d1 (q+1) q)):=aj;clear aj;obtain ⟨E,aa⟩:∃ E,E=Sort.swp d1 (q+1) q:=⟨_,rfl⟩;rw [← aa] at u t;have a2:Hid (E=Sort.swp d1 (q+1) q):=aa;have Y:Hid (SrtW w wc g o E∧(∀ j,j<E.size→E[j]! < N)∧E.size=n):=⟨u.out,t.out.1,t.out.2⟩;clear aa u t A H2;go_upto_if 65 with fail
       go_cut [9,11] (fun s9 ao M=>s9=I ((q:Int)+1)∧∃ d3,SrtW w M g o d3∧(∀ k,k<d3.size→d3[k]! < N)∧d3.size=n∧d3=dnD (ltF f) a (q+1) E)
       case first =>
        by_cases h2:2≤q+1 - a
        ·have t2:(2:Int)≤(q:Int)+1 - (a:Int):=γ;have t3:(2:Int)≤IntKind.i64.wrap ((q:Int)+1 - (a:Int)):=υ;have e5:IntKind.i64.wrap ((q:Int)+1 - 1)=(q:Int):=υ;go_wp2;go_loopg [11] q (fun gk ao M=>∃ (k:Nat) (d2:Array Nat),k≤q∧k=gk∧ao=I (k:Int)∧SrtW w M g o d2∧(∀ j,j<d2.size→d2[j]! < N)∧d2.size=n∧Sort.shiftDown (ltF f) k d2=Sort.shiftDown (ltF f) q E)
         case atStart=>exact ⟨q,E,Nr _,rfl,δ0,Y.out.1,Y.out.2.1,Y.out.2.2,rfl⟩
         case round =>
          clear Y;obtain ⟨k,d2,b7,rfl,rfl,l,R,U,hI⟩:=hrel;have H2:Hid (SrtW w wr g o d2∧(∀ j,j<d2.size→d2[j]! < N)∧d2.size=n):=⟨l,R,U⟩;have HI:Hid (Sort.shiftDown (ltF f) k d2=Sort.shiftDown (ltF f) q E):=hI;clear l R U hI
          have ae:Hid (dnD (ltF f) a (q+1) E=Sort.shiftDown (ltF f) q E):=by
           have:dnD (ltF f) a (q+1) E=Sort.shiftDown (ltF f) q E:=by unfold dnD;rw [if_pos h2,Nat.add_sub_cancel]
           exact this
          rcases Nat.eq_zero_or_pos k with rfl | az
          ·go_wp2;go_meet
           case rel=>exact ⟨rfl,d2,H2.out.1,H2.out.2.1,H2.out.2.2,by rw [ae.out,← HI.out];rfl⟩
          ·obtain ⟨v,rfl⟩:∃ v,k=v+1:=⟨k - 1,γ⟩;have t4:(1:Int)≤(v:Int)+1:=γ;have t5:(0:Int)≤(v:Int):=γ;have J:=H2.out.2.2;obtain ⟨r1,f1⟩:=H2.out.1.row (v+1) γ;obtain ⟨r0,f0⟩:=H2.out.1.row v γ;have l1:=H2.out.2.1 (v+1) γ;have l0:=H2.out.2.1 v γ;have Z:=H2.out.1.lt;obtain ⟨x,B⟩:∃ x,x=d2[v+1]!:=⟨_,rfl⟩;obtain ⟨y,C⟩:∃ y,y=d2[v]!:=⟨_,rfl⟩;rw [← B] at r1 l1;rw [← C] at r0 l0;have A:Hid (x=d2[v+1]! ∧ y=d2[v]!):=⟨B,C⟩;have G:Hid (∀ W:World,Bl wr W→Rt 67 #[rv,I (x:Int),I (y:Int)] W (I (f x y))):=fun W hW=>HC.out W (H2.out.1.kept hW).gr x y l1 l0;obtain ⟨c,m⟩:∃ c,c=f x y:=⟨_,rfl⟩
           have D:Hid (ltF f d2[v+1]! d2[v]! = decide (c<0)):=by
            have:ltF f d2[v+1]! d2[v]! = decide (c<0):=by rw [m,B,C];rfl
            exact this
           rw [← m] at G;have e1:(v:Int)+1 - 1=(v:Int):=γ;have ac:IntKind.i64.wrap ((v:Int)+1 - 1)=(v:Int):=υ;have ad:IntKind.i64.wrap (v:Int)=(v:Int):=υ;have i2:(v:Int)+1<(n:Int):=γ;have i3:(v:Int)<(n:Int):=γ;have k2:(0:Int)≤(v:Int)+1:=γ;have k3:(0:Int)≤(v:Int):=γ;clear B C m l1 l0;by_cases qc:c<0
           ·have V:decide (c<0)=true:=decide_eq_true qc;go_wp2;obtain ⟨K,L⟩:=kcn wr;refine wk ?_;repeat (go_big_quiet_step ((go_at_call 67;exact Qf (G.out _ (Kin.h _)))))
            refine kq1 (fun O hq=>?_);clear K L;have HQ:Hid (SrtW w O g o d2):=H2.out.1.kept hq;replace r1:=Qa hq r1;replace r0:=Qa hq r0;replace f1:=(hq.frozen Z).trans f1;replace f0:=(hq.frozen Z).trans f0;have zq:g<O.heap.size:=Nl Z hq.size;clear hq G;have s:=HQ.out.swap (i:=v+1) (j:=v) γ γ γ;rw [← A.out.1,← A.out.2] at s;have u:Hid (SrtW w ((O.setCell ⟨g,o+(v+1),none⟩ (I (y:Int))).setCell ⟨g,o+v,none⟩ (I (x:Int))) g o (Sort.swp d2 (v+1) v)):=s;have t:Hid ((∀ z,z<(Sort.swp d2 (v+1) v).size→(Sort.swp d2 (v+1) v)[z]! < N)∧(Sort.swp d2 (v+1) v).size=n):=⟨Jv H2.out.2.1 γ γ,(Sort.size_swp ..).trans J⟩;clear s;have am:¬ v+1=v:=γ;have an:¬ v=v+1:=γ;go_wp2;go_region
            all_goals
             go_wp2;go_roundg v
             case measure=>omega
             case rel=>exact ⟨v,Sort.swp d2 (v+1) v,γ,rfl,σ,u.out.kept (Qg (Qe _)),t.out.1,t.out.2,by rw [← HI.out];exact (sD_go (by rw [D.out];exact V)).symm⟩
           ·have V:decide (c<0)=false:=decide_eq_false qc;go_wp2;obtain ⟨K,L⟩:=kcn wr;refine wk ?_;repeat (go_big_quiet_step ((go_at_call 67;exact Qf (G.out _ (Kin.h _)))))
            refine kq1 (fun O hq=>?_);clear K L;clear r1 r0 f1 f0;go_wp2;go_meet
            case rel=>exact ⟨rfl,d2,H2.out.1.kept hq,H2.out.2.1,H2.out.2.2,by rw [ae.out,← HI.out];exact (sD_end (by rw [D.out];exact V)).symm⟩
        ·have t2:¬ (2:Int)≤(q:Int)+1 - (a:Int):=γ;have t3:¬ (2:Int)≤IntKind.i64.wrap ((q:Int)+1 - (a:Int)):=υ;go_wp2;go_meet
         case rel=>exact ⟨rfl,E,Y.out.1,Y.out.2.1,Y.out.2.2,by unfold dnD;rw [if_neg h2]⟩
       case rest =>
        clear Y;obtain ⟨rfl,d3,ai,ah,ak,ag⟩:=hcut;have H3:Hid (SrtW w wc g o d3∧(∀ j,j<d3.size→d3[j]! < N)∧d3.size=n):=⟨ai,ah,ak⟩;have a6:Hid (d3=dnD (ltF f) a (q+1) E):=ag;clear ai ah ak ag;by_cases h3:2≤b - (q+1)
        ·have t2:(2:Int)≤(b:Int) - ((q:Int)+1):=γ;have t3:(2:Int)≤IntKind.i64.wrap ((b:Int) - ((q:Int)+1)):=υ;go_wp2;go_loopg [12] (b - (q+1+1)) (fun gk au M=>∃ (k:Nat) (d2:Array Nat),q+1≤k∧k+1≤b∧gk=b - (k+1)∧au=I ((k:Int)+1)∧SrtW w M g o d2∧(∀ j,j<d2.size→d2[j]! < N)∧d2.size=n∧Sort.shiftUp (ltF f) b (k+1) d2=Sort.shiftUp (ltF f) b (q+1+1) d3)
         case atStart=>exact ⟨q+1,d3,Nr _,γ,rfl,σ,H3.out.1,H3.out.2.1,H3.out.2.2,rfl⟩
         case round =>
          clear H3;obtain ⟨k,d2,b5,b6,rfl,rfl,l,R,U,hI⟩:=hrel;have H2:Hid (SrtW w wr g o d2∧(∀ j,j<d2.size→d2[j]! < N)∧d2.size=n):=⟨l,R,U⟩;have HI:Hid (Sort.shiftUp (ltF f) b (k+1) d2=Sort.shiftUp (ltF f) b (q+1+1) d3):=hI;clear l R U hI
          have af:Hid (upD (ltF f) b (q+1) d3=Sort.shiftUp (ltF f) b (q+1+1) d3):=by
           have:upD (ltF f) b (q+1) d3=Sort.shiftUp (ltF f) b (q+1+1) d3:=by unfold upD;rw [if_pos h3]
           exact this
          by_cases h4:k+1<b
          ·have t4:(k:Int)+1<(b:Int):=γ;have J:=H2.out.2.2;obtain ⟨r1,f1⟩:=H2.out.1.row (k+1) γ;obtain ⟨r0,f0⟩:=H2.out.1.row k γ;have l1:=H2.out.2.1 (k+1) γ;have l0:=H2.out.2.1 k γ;have Z:=H2.out.1.lt;obtain ⟨x,B⟩:∃ x,x=d2[k+1]!:=⟨_,rfl⟩;obtain ⟨y,C⟩:∃ y,y=d2[k]!:=⟨_,rfl⟩;rw [← B] at r1 l1;rw [← C] at r0 l0;have A:Hid (x=d2[k+1]! ∧ y=d2[k]!):=⟨B,C⟩;have G:Hid (∀ W:World,Bl wr W→Rt 67 #[rv,I (x:Int),I (y:Int)] W (I (f x y))):=fun W hW=>HC.out W (H2.out.1.kept hW).gr x y l1 l0;obtain ⟨c,m⟩:∃ c,c=f x y:=⟨_,rfl⟩
           have D:Hid (ltF f d2[k+1]! d2[k]! = decide (c<0)):=by
            have:ltF f d2[k+1]! d2[k]! = decide (c<0):=by rw [m,B,C];rfl
            exact this
           rw [← m] at G;have e1:(k:Int)+1 - 1=(k:Int):=γ;have ac:IntKind.i64.wrap ((k:Int)+1 - 1)=(k:Int):=υ;have ad:IntKind.i64.wrap (k:Int)=(k:Int):=υ;have i2:(k:Int)+1<(n:Int):=γ;have i3:(k:Int)<(n:Int):=γ;have k2:(0:Int)≤(k:Int)+1:=γ;have k3:(0:Int)≤(k:Int):=γ;clear B C m l1 l0;by_cases qc:c<0
           ·have V:decide (c<0)=true:=decide_eq_true qc;go_wp2;obtain ⟨K,L⟩:=kcn wr;refine wk ?_;repeat (go_big_quiet_step ((go_at_call 67;exact Qf (G.out _ (Kin.h _)))))
            refine kq1 (fun O hq=>?_);clear K L;have HQ:Hid (SrtW w O g o d2):=H2.out.1.kept hq;replace r1:=Qa hq r1;replace r0:=Qa hq r0;replace f1:=(hq.frozen Z).trans f1;replace f0:=(hq.frozen Z).trans f0;have zq:g<O.heap.size:=Nl Z hq.size;clear hq G;have s:=HQ.out.swap (i:=k+1) (j:=k) γ γ γ;rw [← A.out.1,← A.out.2] at s;have u:Hid (SrtW w ((O.setCell ⟨g,o+(k+1),none⟩ (I (y:Int))).setCell ⟨g,o+k,none⟩ (I (x:Int))) g o (Sort.swp d2 (k+1) k)):=s;have t:Hid ((∀ z,z<(Sort.swp d2 (k+1) k).size→(Sort.swp d2 (k+1) k)[z]! < N)∧(Sort.swp d2 (k+1) k).size=n):=⟨Jv H2.out.2.1 γ γ,(Sort.size_swp ..).trans J⟩;clear s;have am:¬ k+1=k:=γ;have an:¬ k=k+1:=γ;go_wp2;go_region
            all_goals
             go_wp2;go_roundg (b - (k+1+1))
             case measure=>omega
             case rel=>exact ⟨k+1,Sort.swp d2 (k+1) k,γ,γ,rfl,σ,u.out.kept (Qg (Qe _)),t.out.1,t.out.2,by rw [← HI.out];exact (sU_go h4 (by rw [D.out];exact V)).symm⟩
           ·have V:decide (c<0)=false:=decide_eq_false qc;go_wp2;obtain ⟨K,L⟩:=kcn wr;refine wk ?_;repeat (go_big_quiet_step ((go_at_call 67;exact Qf (G.out _ (Kin.h _)))))
            refine kq1 (fun O hq=>?_);clear K L;clear r1 r0 f1 f0;have F:d2=upD (ltF f) b (q+1) d3:=by rw [af.out,← HI.out];exact (sU_end (Or.inr (by rw [D.out];exact V))).symm
            have P:Hid (Sort.partialIns (ltF f) a b (5 - (st+1)) (q+1) d2=T):=by
             have:Sort.partialIns (ltF f) a b (5 - (st+1)) (q+1) d2=T:=by
              rw [← HP.out,pI_go HX.out hnb h50,F,a6.out,a2.out,show 5 - (st+1)=r by omega];rfl
             exact this
            clear F;go_wp2;go_roundg (5 - (st+1))
            case measure=>omega
            case rel=>exact ⟨q,st+1,d2,γ,H,rfl,γ,rfl,σ,H2.out.1.kept hq,H2.out.2.1,H2.out.2.2,P.out⟩
          ·have t4:¬ (k:Int)+1<(b:Int):=γ;have F:d2=upD (ltF f) b (q+1) d3:=by rw [af.out,← HI.out];exact (sU_end (Or.inl h4)).symm
           have P:Hid (Sort.partialIns (ltF f) a b (5 - (st+1)) (q+1) d2=T):=by
            have:Sort.partialIns (ltF f) a b (5 - (st+1)) (q+1) d2=T:=by
             rw [← HP.out,pI_go HX.out hnb h50,F,a6.out,a2.out,show 5 - (st+1)=r by omega];rfl
            exact this
           clear F;go_wp2;go_roundg (5 - (st+1))
           case measure=>omega
           case rel=>exact ⟨q,st+1,d2,γ,H,rfl,γ,rfl,σ,H2.out.1,H2.out.2.1,H2.out.2.2,P.out⟩
        ·have t2:¬ (2:Int)≤(b:Int) - ((q:Int)+1):=γ;have t3:¬ (2:Int)≤IntKind.i64.wrap ((b:Int) - ((q:Int)+1)):=υ;have F:d3=upD (ltF f) b (q+1) d3:=by unfold upD;rw [if_neg h3]
         have P:Hid (Sort.partialIns (ltF f) a b (5 - (st+1)) (q+1) d3=T):=by
          have:Sort.partialIns (ltF f) a b (5 - (st+1)) (q+1) d3=T:=by
           rw [← HP.out,pI_go HX.out hnb h50,F,a6.out,a2.out,show 5 - (st+1)=r by omega];rfl
          exact this
         clear F;go_wp2;go_roundg (5 - (st+1))
         case measure=>omega
         case rel=>exact ⟨q,st+1,d3,γ,H,rfl,γ,rfl,σ,H3.out.1,H3.out.2.1,H3.out.2.2,P.out⟩
  ·have t5:¬ (st:Int)<5:=γ
   have HE:Hid (T=(d1,false)):=by
    have:T=(d1,false):=by rw [← X,show 5 - st=0 by omega];rfl
    exact this
   clear hS a7 a8 X;go_wp2;go_ret;rw [HE.out];exact ⟨rfl,HS.out.1⟩
end Go.Proofs.YtjkjpopghkeibaaGreatDoor
