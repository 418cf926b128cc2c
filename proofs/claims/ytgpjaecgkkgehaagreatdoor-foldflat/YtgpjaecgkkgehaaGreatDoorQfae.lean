/- A part of the proof of foldFlat_holds. -/
import Derived.Test.YtgpjaecgkkgehaaGreatDoorQfad
import Derived.Test.YtgpjaecgkkgehaaGreatDoorQfab
import Derived.Laws.AppendOwn
import Derived.Test.YtgpjaecgkkgehaaGreatDoorQfaa
import Derived.Deep.QuietTactic
import Derived.BigQuiet
import Derived.Test.YtgpjaecgkkgehaaGreatDoorQfac
namespace Go.Proofs.YtgpjaecgkkgehaaGreatDoor
open Go.RowKit
def bitAt (zs:List Int) (W x y k:Nat):Bool:=bitB (zs.getD (y*W+x) 0) k
def tk (zs:List Int) (W x y n:Nat):List (Int×Int×Int):=((List.range n).filter (fun k=>bitAt zs W x y k)).map (fun (k:Nat)=>((x:Int),(y:Int),(k:Int)))
def tx (zs:List Int) (W y n:Nat):List (Int×Int×Int):=(List.range n).flatMap (fun x=>tk zs W x y 4)
def ty (zs:List Int) (W n:Nat):List (Int×Int×Int):=(List.range n).flatMap (fun y=>tx zs W y W)
theorem tk_zero (zs:List Int) (W x y:Nat):tk zs W x y 0=[]:=by simp [tk]
theorem tx_zero (zs:List Int) (W y:Nat):tx zs W y 0=[]:=by simp [tx]
theorem tk_yes {zs:List Int} {W x y n:Nat} (h:bitAt zs W x y n=true):tk zs W x y (n+1)=tk zs W x y n ++ [((x:Int),(y:Int),(n:Int))]:=by
 simp [tk,List.range_succ,List.filter_append,h]
theorem tk_no {zs:List Int} {W x y n:Nat} (h:bitAt zs W x y n=false):tk zs W x y (n+1)=tk zs W x y n:=by
 simp [tk,List.range_succ,List.filter_append,h]
theorem tx_succ (zs:List Int) (W y n:Nat):tx zs W y (n+1)=tx zs W y n ++ tk zs W n y 4:=by
 simp [tx,List.range_succ,List.flatMap_append]
theorem ty_succ (zs:List Int) (W n:Nat):ty zs W (n+1)=ty zs W n ++ tx zs W n W:=by
 simp [ty,List.range_succ,List.flatMap_append]
theorem tk_len (zs:List Int) (W x y n:Nat):(tk zs W x y n).length≤n:=by
 unfold tk
 rw [List.length_map]
 exact Nat.le_trans (List.length_filter_le _ _) (by simp)
theorem tx_len (zs:List Int) (W y n:Nat):(tx zs W y n).length≤4*n:=by
 induction n with
 | zero=>simp [tx]
 | succ n ih =>
  rw [tx_succ,List.length_append]
  have:=tk_len zs W n y 4
  omega
theorem ty_len (zs:List Int) (W n:Nat) (hW:W≤8):(ty zs W n).length≤32*n:=by
 induction n with
 | zero=>simp [ty]
 | succ n ih =>
  rw [ty_succ,List.length_append]
  have:=tx_len zs W n W
  omega
def flatV (l:List (Int×Int×Int)):List Value:=l.flatMap fun t=>[.int .i64 t.1,.int .i64 t.2.1,.int .i64 t.2.2]
theorem flatV_add (l m:List (Int×Int×Int)):flatV (l ++ m)=flatV l ++ flatV m:=by simp [flatV,List.flatMap_append]
theorem cell_three_new (w:World) (a b c:Int):∀ j u,([Value.int .i64 a,.int .i64 b,.int .i64 c])[j]?=some u→(w.alloc (.cells #[.int .i64 a,.int .i64 b,.int .i64 c] 56)).cell? ((⟨w.heap.size,0,none⟩:Addr).add j)=some u:=by
 intro j u hu
 match j,hu with
 | 0,hu=>simp at hu;subst hu;simp [go_sem,Addr.add]
 | 1,hu=>simp at hu;subst hu;simp [go_sem,Addr.add]
 | 2,hu=>simp at hu;subst hu;simp [go_sem,Addr.add]
theorem own_below {w w':World} {base:Nat} {e:TypeId} {size:Nat} {v:Value} {n:Nat} {xs:List Value} (h:w.ownsRow base e size v n xs) (hb:Below w.heap.size w w'):w'.ownsRow base e size v n xs:=by
 refine ⟨h.1, ?_⟩
 rcases h.2 with ⟨h1,h2⟩ | ⟨g,cap,cur,h1,h2,h3,h4⟩
 ·exact .inl ⟨h1,h2⟩
 ·refine .inr ⟨g,cap,cur,h1,h2, ?_,h4⟩
  have hg:g<w.heap.size:=by
   rcases Nat.lt_or_ge g w.heap.size with h | h
   ·exact h
   ·rw [Array.getElem?_eq_none h] at h3;cases h3
  rw [hb.block g hg]
  exact h3
theorem own_base {w:World} {base:Nat} {e:TypeId} {size:Nat} {v:Value} {n:Nat} {xs:List Value} (h:w.ownsRow base e size v n xs):∀ k,v.ownBlock=some k→base≤k:=by
 intro k hk
 rcases h.2 with ⟨rfl,_⟩ | ⟨g,cap,cur,rfl,h2,_⟩
 ·simp [Value.ownBlock] at hk
 ·simp [Value.ownBlock] at hk
  omega
def TI (w wx:World) (W H b off cap:Nat) (zs:List Int) (c v:Value) (L:List (Int×Int×Int)):Prop :=
 wx.ownsRow (w.heap.size+1) 56 3 v L.length (flatV L)∧Sh wx w.heap.size (.int .i64 (W:Int)) (.int .i64 (H:Int)) (.slice (some ⟨b,off,none⟩) zs.length cap) c∧Below w.heap.size w wx∧w.heap.size+1≤wx.heap.size
theorem inf23:(Tryz.prog.info? 56).map (fun i=>(i.zero,i.size,i.bytes))=some (some (.agg #[.int .i64 0,.int .i64 0,.int .i64 0]),3,24):=by kernel_rfl
theorem TI.kept {w wr wx:World} {W H b off cap:Nat} {zs:List Int} {c v:Value} {L:List (Int×Int×Int)} (h:TI w wr W H b off cap zs c v L) (hb:Below wr.heap.size wr wx):TI w wx W H b off cap zs c v L :=
 ⟨own_below h.1 hb,h.2.1.kept hb,bl_via h.2.2.1 hb,Nat.le_trans h.2.2.2 hb.size⟩
set_option maxRecDepth 100000 in
set_option maxHeartbeats 3200000 in
theorem trisOf_any (W H b off cap:Nat) (zs:List Int) (c:Value) (w:World) (hr:Row w (some ⟨b,off,none⟩) zs) (hW:1≤W∧W≤8) (hH:1≤H∧H≤8) (hl:zs.length=W*H) (hm:maskB zs=true) :
  Calls Tryz.prog 38 #[.agg #[.int .i64 (W:Int),.int .i64 (H:Int),.slice (some ⟨b,off,none⟩) zs.length cap,c]] w fun e w'=>∃ v,e=.returned v∧w'.ownsRow (w.heap.size+1) 56 3 v (ty zs W H).length (flatV (ty zs W H))∧Below w.heap.size w w':=by
 have HR:Hid (Row w (some ⟨b,off,none⟩) zs):=hr
 have h64:zs.length≤64:=by rw [hl];exact Nat.le_trans (Nat.mul_le_mul hW.2 hH.2) (by decide)
 have HM:Hid (∀ z∈zs,0≤z∧z≤15):=by
  show ∀ z∈zs,0≤z∧z≤15
  simpa [maskB] using hm
 have HL:Hid (zs.length=W*H):=hl
 obtain ⟨i0,hi,hz0,hz1,hz2⟩:=info_parts inf23
 have HI:Hid (Tryz.prog.info? 56=some i0∧i0.zero=some (.agg #[.int .i64 0,.int .i64 0,.int .i64 0])∧i0.size=3∧i0.bytes=24):=⟨hi,hz0,hz1,hz2⟩
 clear hr hm hl hi hz0 hz1 hz2
 obtain ⟨w1,w8⟩:=hW
 obtain ⟨h1,h8⟩:=hH
 go_enter Tryz.func38,Tryz.ntmps38
 go_wp2
 go_loopg [3,4] H (fun g s3 s4 wx=>∃ y:Nat,y≤H∧g=H - y∧s4=.int .i64 (y:Int)∧TI w wx W H b off cap zs c (s3) (ty zs W y))
 case atStart=>exact ⟨0,by omega,rfl,rfl,by simpa [ty,flatV] using World.ownsRow_nil _ _ _ _,by simp [Sh,go_sem],bl_alloc (bl_refl _),by simp⟩
 case round =>
  obtain ⟨y,hy,rfl,rfl,hT⟩:=hrel
  obtain ⟨va,hva⟩:∃ u,u=u3:=⟨_,rfl⟩
  subst hva
  have HT:Hid (TI w wr W H b off cap zs c (va) (ty zs W y)):=hT
  clear hT
  obtain ⟨p0,p1,p2,p3⟩:=HT.out.2.1
  by_cases hy1:y<H
  ·have iy:(y:Int)<(H:Int):=by omega
   go_wp2
   go_loopg [3,5] W (fun g s3 s5 wx=>∃ x:Nat,x≤W∧g=W - x∧s5=.int .i64 (x:Int)∧TI w wx W H b off cap zs c (s3) (ty zs W y ++ tx zs W y x))
   case atStart=>exact ⟨0,by omega,rfl,rfl,by rw [tx_zero,List.append_nil];exact HT.out⟩
   case round =>
    clear HT p0 p1 p2 p3
    obtain ⟨x,hx,rfl,rfl,hT⟩:=hrel
    obtain ⟨vb,hvb⟩:∃ u,u=u3:=⟨_,rfl⟩
    subst hvb
    have HT:Hid (TI w wr W H b off cap zs c (vb) (ty zs W y ++ tx zs W y x)):=hT
    clear hT
    obtain ⟨p0,p1,p2,p3⟩:=HT.out.2.1
    by_cases hx1:x<W
    ·have ix:(x:Int)<(W:Int):=by omega
     go_wp2
     go_loopg [3,6] 4 (fun g s3 s6 wx=>∃ k:Nat,k≤4∧g=4 - k∧s6=.int .i64 (k:Int)∧TI w wx W H b off cap zs c (s3) (ty zs W y ++ tx zs W y x ++ tk zs W x y k))
     case atStart=>exact ⟨0,by omega,rfl,rfl,by rw [tk_zero,List.append_nil];exact HT.out⟩
     case round =>
      clear HT p0 p1 p2 p3
      obtain ⟨k,hk,rfl,rfl,hT⟩:=hrel
      obtain ⟨vc,hvc⟩:∃ u,u=u3:=⟨_,rfl⟩
      subst hvc
      have HT:Hid (TI w wr W H b off cap zs c (vc) (ty zs W y ++ tx zs W y x ++ tk zs W x y k)):=hT
      clear hT
      obtain ⟨p0,p1,p2,p3⟩:=HT.out.2.1
      by_cases hk1:k<4
      ·have ik:(k:Int)<4:=by omega
       have hyw:y*W+W≤W*H:=by
        have:=Nat.mul_le_mul_right W (show y+1≤H by omega)
        rw [Nat.succ_mul,Nat.mul_comm H W] at this
        exact this
       have hm:y*W+x<zs.length:=by rw [HL.out];omega
       have hyw2:y*W≤64:=by have:=HL.out;omega
       obtain ⟨b',off',e',hc⟩:=(HR.out.kept HT.out.2.2.1) (y*W+x) hm
       simp at e'
       obtain ⟨rfl,rfl⟩:=e'
       have hzb:=HM.out _ (List.getElem_mem hm)
       have hbt:bitAt zs W x y k=bitB (zs[y*W+x]) k:=by simp [bitAt,hm]
       obtain ⟨z,hz⟩:∃ z,z=zs[y*W+x]:=⟨_,rfl⟩
       rw [← hz] at hc hzb hbt
       have zz0:w.heap.size<wr.heap.size:=World.block_lt_of_cell? _ _ p0
       have zz1:w.heap.size<wr.heap.size+1:=by omega
       have HC:Hid (∀ W':World,Below wr.heap.size wr W'→Calls Tryz.prog 77 #[.agg #[.int .i64 (W:Int),.int .i64 (H:Int),.slice (some ⟨b,off,none⟩) zs.length cap,c],.agg #[.int .i64 (x:Int),.int .i64 (y:Int),.int .i64 (k:Int)]] W' fun e w'=>e=.returned (.bool (bitB z k))∧Below W'.heap.size W' w'):=fun W' hW' =>
        hasTri_in W H x y k z b off (y*W+x) cap zs c W' (by omega) (by omega) (by omega) (by omega) (by omega) (by simp) hm h64 (by constructor <;> (rw [← Int.natCast_mul];omega)) (cl_kept hW' hc) hzb
       have HBT:Hid (bitAt zs W x y k=bitB z k):=hbt
       clear hc hzb hbt hz hm hyw hyw2
       cases hbit:bitB z k
       ·go_wp2_with (go_at_call 77;refine (HC.out _ (by with_reducible exact bl_alloc (bl_refl _))).mono ?_;rintro e w2 ⟨rfl,hb⟩;have HT2:Hid (TI w w2 W H b off cap zs c (vc) (ty zs W y ++ tx zs W y x ++ tk zs W x y k)):=HT.out.kept (bl_via (bl_alloc (bl_refl _)) hb);clear hb)
        go_roundg (4 - (k+1))
        case measure=>omega
        case rel=>exact ⟨k+1,by omega,rfl,by go_num,by rw [tk_no (HBT.out.trans hbit)];exact HT2.out⟩
       ·have hlen:(ty zs W y ++ tx zs W y x ++ tk zs W x y k).length+1≤1000:=by
         have q1:=ty_len zs W y w8
         have q2:=tx_len zs W y x
         have q3:=tk_len zs W x y k
         simp only [List.length_append]
         omega
        go_wp2_with (first
         | (go_at_call 77;refine (HC.out _ (by with_reducible exact bl_alloc (bl_refl _))).mono ?_;rintro e w2 ⟨rfl,hb⟩;have HT2:Hid (TI w w2 W H b off cap zs c (vc) (ty zs W y ++ tx zs W y x ++ tk zs W x y k)):=HT.out.kept (bl_via (bl_alloc (bl_refl _)) hb);have n0:w2.cell? ⟨wr.heap.size,0,none⟩=some (.int .i64 (x:Int)):=cl_kept hb (by simp [go_sem]);have n1:w2.cell? ⟨wr.heap.size,1,none⟩=some (.int .i64 (y:Int)):=cl_kept hb (by simp [go_sem]);have n2:w2.cell? ⟨wr.heap.size,2,none⟩=some (.int .i64 (k:Int)):=cl_kept hb (by simp [go_sem]);have zn:wr.heap.size<w2.heap.size:=World.block_lt_of_cell? _ _ n0;clear hb)
         | (at_builtin;refine wpList_append_own _ rfl (.tmp 31) (.tmp 33) 57 rfl (w.heap.size+1) 56 i0 (.agg #[.int .i64 0,.int .i64 0,.int .i64 0]) 3 24 Tryz.underlying57 HI.out.1 HI.out.2.1 HI.out.2.2.1 HI.out.2.2.2 rfl (by decide) vc (ty zs W y ++ tx zs W y x ++ tk zs W x y k).length (flatV (ty zs W y ++ tx zs W y x ++ tk zs W x y k)) rfl ?own ⟨w2.heap.size,0,none⟩ 1 1 [.int .i64 (x:Int),.int .i64 (y:Int),.int .i64 (k:Int)] rfl rfl ?c1 ?c2 ?b1 ?b2 ?b3 ?grow))
        case own=>exact own_below HT2.out.1 (bl_alloc (bl_refl _))
        case c1=>exact cell_three_new _ _ _ _
        case c2 =>
         intro u hu
         simp at hu
         rcases hu with rfl | rfl | rfl <;> rfl
        case b1 =>
         unfold maxLen
         omega
        case b2=>omega
        case b3 =>
         have:=HT2.out.2.2.2
         simp
         omega
        case grow =>
         intro v' w3 hown hgrow hnil
         have hgb:=Below.grown (Below.refl (w.heap.size+1) _) hgrow (by have:=HT2.out.2.2.2;simp;omega) (own_base HT2.out.1)
         have ho:w3.ownsRow (w.heap.size+1) 56 3 v' ((ty zs W y ++ tx zs W y x ++ tk zs W x y k).length+1) (flatV (ty zs W y ++ tx zs W y x ++ tk zs W x y k) ++ [.int .i64 (x:Int),.int .i64 (y:Int),.int .i64 (k:Int)]):=by simpa [List.length_append,List.append_assoc,Nat.add_assoc] using hown
         have HO:Hid (w3.ownsRow (w.heap.size+1) 56 3 v' ((ty zs W y ++ tx zs W y x ++ tk zs W x y k).length+1) (flatV (ty zs W y ++ tx zs W y x ++ tk zs W x y k) ++ [.int .i64 (x:Int),.int .i64 (y:Int),.int .i64 (k:Int)])):=ho
         clear ho
         have HG:Hid (Below (w.heap.size+1) (w2.alloc (.cells #[.int .i64 (x:Int),.int .i64 (y:Int),.int .i64 (k:Int)] 56)) w3):=hgb
         clear hown hgrow hnil hgb
         go_wp2
         go_roundg (4 - (k+1))
         case measure=>omega
         case rel =>
          have hS:Sh (w2.alloc (.cells #[.int .i64 (x:Int),.int .i64 (y:Int),.int .i64 (k:Int)] 56)) w.heap.size (.int .i64 (W:Int)) (.int .i64 (H:Int)) (.slice (some ⟨b,off,none⟩) zs.length cap) c:=HT2.out.2.1.kept (bl_alloc (bl_refl _))
          have hB:Below w.heap.size w (w2.alloc (.cells #[.int .i64 (x:Int),.int .i64 (y:Int),.int .i64 (k:Int)] 56)):=bl_alloc HT2.out.2.2.1
          have hE:ty zs W y ++ tx zs W y x ++ tk zs W x y (k+1)=(ty zs W y ++ tx zs W y x ++ tk zs W x y k) ++ [((x:Int),(y:Int),(k:Int))]:=by rw [tk_yes (HBT.out.trans hbit),← List.append_assoc]
          refine ⟨k+1,by omega,rfl,by go_num, ?_,⟨?_, ?_, ?_, ?_⟩,hB.trans (HG.out.mono (by omega)), ?_⟩
          ·rw [hE,flatV_add,List.length_append]
           exact HO.out
          ·exact (HG.out.cell (p:=⟨w.heap.size,0,none⟩) (by dsimp only;omega)).trans hS.1
          ·exact (HG.out.cell (p:=⟨w.heap.size,1,none⟩) (by dsimp only;omega)).trans hS.2.1
          ·exact (HG.out.cell (p:=⟨w.heap.size,2,none⟩) (by dsimp only;omega)).trans hS.2.2.1
          ·exact (HG.out.cell (p:=⟨w.heap.size,3,none⟩) (by dsimp only;omega)).trans hS.2.2.2
          ·have q:=HG.out.size
           have q2:=HT2.out.2.2.2
           simp at q
           omega
      ·go_wp2
       go_roundg (W - (x+1))
       case measure=>omega
       case rel =>
        obtain rfl:k=4:=by omega
        exact ⟨x+1,by omega,rfl,by go_num,by rw [tx_succ,← List.append_assoc];exact HT.out⟩
    ·have ix:¬ (x:Int)<(W:Int):=by omega
     go_wp2
     go_roundg (H - (y+1))
     case measure=>omega
     case rel =>
      obtain rfl:x=W:=by omega
      exact ⟨y+1,by omega,rfl,by go_num,by rw [ty_succ];exact HT.out⟩
  ·have iy:¬ (y:Int)<(H:Int):=by omega
   obtain rfl:y=H:=by omega
   go_wp2
   go_ret
   exact ⟨va,rfl,HT.out.1,HT.out.2.2.1⟩
open Go.RowKit
def Six (w:World) (g:Nat) (a b c d e f:Int):Prop :=
 w.cell? ⟨g,0,none⟩=some (.int .i64 a)∧w.cell? ⟨g,1,none⟩=some (.int .i64 b)∧w.cell? ⟨g,2,none⟩=some (.int .i64 c)∧w.cell? ⟨g,3,none⟩=some (.int .i64 d)∧w.cell? ⟨g,4,none⟩=some (.int .i64 e)∧w.cell? ⟨g,5,none⟩=some (.int .i64 f)
theorem Below.drewN {B:Nat} {a w:World} (h:Below B a w) (n:Nat):Below B a (w.drewN n):=⟨h.os,h.tape,h.output,h.size,h.block⟩
theorem six_of (x y k a b c d:Int) (h1:c1x x k=a) (h2:c1y y k=b) (h3:c2x x k=c) (h4:c2y y k=d) {w:World} {g:Nat} (h:Six w g (2*x+1) (2*y+1) a b c d):Six w g (2*x+1) (2*y+1) (c1x x k) (c1y y k) (c2x x k) (c2y y k):=by
 subst h1 h2 h3 h4;exact h
set_option maxHeartbeats 1600000 in
theorem cornersOf_0 (x y:Int) (w:World) (h:triB x y 0=true) :
  Calls Tryz.prog 78 #[.agg #[.int .i64 x,.int .i64 y,.int .i64 0]] w fun e w'=>∃ g,e=.returned (.slice (some ⟨g,0,none⟩) 3 3)∧w.heap.size≤g∧Six w' g (2*x+1) (2*y+1) (c1x x 0) (c1y y 0) (c2x x 0) (c2y y 0)∧Below w.heap.size w w':=by
 have hb : -1000000≤x∧x≤1000000∧-1000000≤y∧y≤1000000:=by simpa [triB] using h
 obtain ⟨b1,b2,b3,b4⟩:=hb
 have e1:Hid (c1x x 0=2*x+0∧c1y y 0=2*y+0∧c2x x 0=2*x+2∧c2y y 0=2*y+0):=by
  simp [Hid,c1x,c1y,c2x,c2y,stX,stY] <;> omega
 go_enter Tryz.func78,Tryz.ntmps78
 go_wp2
 go_quiet (fail)
 go_wp2
 go_ret
 refine ⟨_,rfl,by omega,six_of x y 0 _ _ _ _ e1.out.1 e1.out.2.1 e1.out.2.2.1 e1.out.2.2.2 ?_, ?_⟩
 ·simp [Six,go_sem]
 ·repeat (first | exact Below.refl _ _ | refine Below.alloc ?_ (by simp;try omega) _ | refine Below.drewN ?_ _)
set_option maxHeartbeats 1600000 in
theorem cornersOf_1 (x y:Int) (w:World) (h:triB x y 1=true) :
  Calls Tryz.prog 78 #[.agg #[.int .i64 x,.int .i64 y,.int .i64 1]] w fun e w'=>∃ g,e=.returned (.slice (some ⟨g,0,none⟩) 3 3)∧w.heap.size≤g∧Six w' g (2*x+1) (2*y+1) (c1x x 1) (c1y y 1) (c2x x 1) (c2y y 1)∧Below w.heap.size w w':=by
 have hb : -1000000≤x∧x≤1000000∧-1000000≤y∧y≤1000000:=by simpa [triB] using h
 obtain ⟨b1,b2,b3,b4⟩:=hb
 have e1:Hid (c1x x 1=2*x+2∧c1y y 1=2*y+0∧c2x x 1=2*x+2∧c2y y 1=2*y+2):=by
  simp [Hid,c1x,c1y,c2x,c2y,stX,stY] <;> omega
 go_enter Tryz.func78,Tryz.ntmps78
 go_wp2
 go_quiet (fail)
 go_wp2
 go_ret
 refine ⟨_,rfl,by omega,six_of x y 1 _ _ _ _ e1.out.1 e1.out.2.1 e1.out.2.2.1 e1.out.2.2.2 ?_, ?_⟩
 ·simp [Six,go_sem]
 ·repeat (first | exact Below.refl _ _ | refine Below.alloc ?_ (by simp;try omega) _ | refine Below.drewN ?_ _)
set_option maxHeartbeats 1600000 in
theorem cornersOf_2 (x y:Int) (w:World) (h:triB x y 2=true) :
  Calls Tryz.prog 78 #[.agg #[.int .i64 x,.int .i64 y,.int .i64 2]] w fun e w'=>∃ g,e=.returned (.slice (some ⟨g,0,none⟩) 3 3)∧w.heap.size≤g∧Six w' g (2*x+1) (2*y+1) (c1x x 2) (c1y y 2) (c2x x 2) (c2y y 2)∧Below w.heap.size w w':=by
 have hb : -1000000≤x∧x≤1000000∧-1000000≤y∧y≤1000000:=by simpa [triB] using h
 obtain ⟨b1,b2,b3,b4⟩:=hb
 have e1:Hid (c1x x 2=2*x+2∧c1y y 2=2*y+2∧c2x x 2=2*x+0∧c2y y 2=2*y+2):=by
  simp [Hid,c1x,c1y,c2x,c2y,stX,stY] <;> omega
 go_enter Tryz.func78,Tryz.ntmps78
 go_wp2
 go_quiet (fail)
 go_wp2
 go_ret
 refine ⟨_,rfl,by omega,six_of x y 2 _ _ _ _ e1.out.1 e1.out.2.1 e1.out.2.2.1 e1.out.2.2.2 ?_, ?_⟩
 ·simp [Six,go_sem]
 ·repeat (first | exact Below.refl _ _ | refine Below.alloc ?_ (by simp;try omega) _ | refine Below.drewN ?_ _)
set_option maxHeartbeats 1600000 in
theorem cornersOf_3 (x y:Int) (w:World) (h:triB x y 3=true) :
  Calls Tryz.prog 78 #[.agg #[.int .i64 x,.int .i64 y,.int .i64 3]] w fun e w'=>∃ g,e=.returned (.slice (some ⟨g,0,none⟩) 3 3)∧w.heap.size≤g∧Six w' g (2*x+1) (2*y+1) (c1x x 3) (c1y y 3) (c2x x 3) (c2y y 3)∧Below w.heap.size w w':=by
 have hb : -1000000≤x∧x≤1000000∧-1000000≤y∧y≤1000000:=by simpa [triB] using h
 obtain ⟨b1,b2,b3,b4⟩:=hb
 have e1:Hid (c1x x 3=2*x+0∧c1y y 3=2*y+2∧c2x x 3=2*x+0∧c2y y 3=2*y+0):=by
  simp [Hid,c1x,c1y,c2x,c2y,stX,stY] <;> omega
 go_enter Tryz.func78,Tryz.ntmps78
 go_wp2
 go_quiet (fail)
 go_wp2
 go_ret
 refine ⟨_,rfl,by omega,six_of x y 3 _ _ _ _ e1.out.1 e1.out.2.1 e1.out.2.2.1 e1.out.2.2.2 ?_, ?_⟩
 ·simp [Six,go_sem]
 ·repeat (first | exact Below.refl _ _ | refine Below.alloc ?_ (by simp;try omega) _ | refine Below.drewN ?_ _)
theorem cornersOf_any (x y k:Int) (w:World) (h:triB x y k=true) :
  Calls Tryz.prog 78 #[.agg #[.int .i64 x,.int .i64 y,.int .i64 k]] w fun e w'=>∃ g,e=.returned (.slice (some ⟨g,0,none⟩) 3 3)∧w.heap.size≤g∧Six w' g (2*x+1) (2*y+1) (c1x x k) (c1y y k) (c2x x k) (c2y y k)∧Below w.heap.size w w':=by
 have hk:k=0∨k=1∨k=2∨k=3:=by have:=h;simp [triB] at this;omega
 rcases hk with rfl | rfl | rfl | rfl
 ·exact cornersOf_0 x y w h
 ·exact cornersOf_1 x y w h
 ·exact cornersOf_2 x y w h
 ·exact cornersOf_3 x y w h
open Go.RowKit
set_option maxHeartbeats 1600000 in
theorem cornersOfW_0 (x y:Int) (w:World) (b1 : -4000000≤x) (b2:x≤4000000) (b3 : -4000000≤y) (b4:y≤4000000) :
  Calls Tryz.prog 78 #[.agg #[.int .i64 x,.int .i64 y,.int .i64 0]] w fun e w'=>∃ g,e=.returned (.slice (some ⟨g,0,none⟩) 3 3)∧w.heap.size≤g∧Mp w' g (2*x+1) (2*y+1) (2*x) (2*y) (2*x+2) (2*y)∧Below w.heap.size w w':=by
 go_enter Tryz.func78,Tryz.ntmps78
 go_wp2
 go_quiet (fail)
 go_wp2
 go_ret
 refine ⟨_,rfl,by omega, ?_, ?_⟩
 ·simp [Mp,go_sem]
 ·with_reducible repeat (first | refine bl_alloc ?_ | refine bl_drewN ?_ | exact bl_refl _)
set_option maxHeartbeats 1600000 in
theorem cornersOfW_1 (x y:Int) (w:World) (b1 : -4000000≤x) (b2:x≤4000000) (b3 : -4000000≤y) (b4:y≤4000000) :
  Calls Tryz.prog 78 #[.agg #[.int .i64 x,.int .i64 y,.int .i64 1]] w fun e w'=>∃ g,e=.returned (.slice (some ⟨g,0,none⟩) 3 3)∧w.heap.size≤g∧Mp w' g (2*x+1) (2*y+1) (2*x+2) (2*y) (2*x+2) (2*y+2)∧Below w.heap.size w w':=by
 go_enter Tryz.func78,Tryz.ntmps78
 go_wp2
 go_quiet (fail)
 go_wp2
 go_ret
 refine ⟨_,rfl,by omega, ?_, ?_⟩
 ·simp [Mp,go_sem]
 ·with_reducible repeat (first | refine bl_alloc ?_ | refine bl_drewN ?_ | exact bl_refl _)
set_option maxHeartbeats 1600000 in
theorem cornersOfW_2 (x y:Int) (w:World) (b1 : -4000000≤x) (b2:x≤4000000) (b3 : -4000000≤y) (b4:y≤4000000) :
  Calls Tryz.prog 78 #[.agg #[.int .i64 x,.int .i64 y,.int .i64 2]] w fun e w'=>∃ g,e=.returned (.slice (some ⟨g,0,none⟩) 3 3)∧w.heap.size≤g∧Mp w' g (2*x+1) (2*y+1) (2*x+2) (2*y+2) (2*x) (2*y+2)∧Below w.heap.size w w':=by
 go_enter Tryz.func78,Tryz.ntmps78
 go_wp2
 go_quiet (fail)
 go_wp2
 go_ret
 refine ⟨_,rfl,by omega, ?_, ?_⟩
 ·simp [Mp,go_sem]
 ·with_reducible repeat (first | refine bl_alloc ?_ | refine bl_drewN ?_ | exact bl_refl _)
set_option maxHeartbeats 1600000 in
theorem cornersOfW_3 (x y:Int) (w:World) (b1 : -4000000≤x) (b2:x≤4000000) (b3 : -4000000≤y) (b4:y≤4000000) :
  Calls Tryz.prog 78 #[.agg #[.int .i64 x,.int .i64 y,.int .i64 3]] w fun e w'=>∃ g,e=.returned (.slice (some ⟨g,0,none⟩) 3 3)∧w.heap.size≤g∧Mp w' g (2*x+1) (2*y+1) (2*x) (2*y+2) (2*x) (2*y)∧Below w.heap.size w w':=by
 go_enter Tryz.func78,Tryz.ntmps78
 go_wp2
 go_quiet (fail)
 go_wp2
 go_ret
 refine ⟨_,rfl,by omega, ?_, ?_⟩
 ·simp [Mp,go_sem]
 ·with_reducible repeat (first | refine bl_alloc ?_ | refine bl_drewN ?_ | exact bl_refl _)
open Go.RowKit
attribute [local go_sem ↓] Go.wp_at_zero Go.wp_at_succ
def Twl (w:World) (g:Nat) (v0 v1 v2 v3 v4 v5 v6 v7 v8 v9 v10 v11:Int):Prop :=
 w.cell? ⟨g,0,none⟩=some (.int .i64 v0)∧w.cell? ⟨g,1,none⟩=some (.int .i64 v1)∧w.cell? ⟨g,2,none⟩=some (.int .i64 v2)∧w.cell? ⟨g,3,none⟩=some (.int .i64 v3)∧w.cell? ⟨g,4,none⟩=some (.int .i64 v4)∧w.cell? ⟨g,5,none⟩=some (.int .i64 v5)∧w.cell? ⟨g,6,none⟩=some (.int .i64 v6)∧w.cell? ⟨g,7,none⟩=some (.int .i64 v7)∧w.cell? ⟨g,8,none⟩=some (.int .i64 v8)∧w.cell? ⟨g,9,none⟩=some (.int .i64 v9)∧w.cell? ⟨g,10,none⟩=some (.int .i64 v10)∧w.cell? ⟨g,11,none⟩=some (.int .i64 v11)
theorem Twl.kept {w wx:World} {g:Nat} {v0 v1 v2 v3 v4 v5 v6 v7 v8 v9 v10 v11:Int} (h:Twl w g v0 v1 v2 v3 v4 v5 v6 v7 v8 v9 v10 v11) (hb:Below w.heap.size w wx):Twl wx g v0 v1 v2 v3 v4 v5 v6 v7 v8 v9 v10 v11:=by
 obtain ⟨h0,h1,h2,h3,h4,h5,h6,h7,h8,h9,h10,h11⟩:=h
 exact ⟨cl_kept hb h0,cl_kept hb h1,cl_kept hb h2,cl_kept hb h3,cl_kept hb h4,cl_kept hb h5,cl_kept hb h6,cl_kept hb h7,cl_kept hb h8,cl_kept hb h9,cl_kept hb h10,cl_kept hb h11⟩
theorem cornersOfW_any (x y k:Int) (w:World) (b1 : -4000000≤x) (b2:x≤4000000) (b3 : -4000000≤y) (b4:y≤4000000) (k0:0≤k) (k3:k≤3) :
  Calls Tryz.prog 78 #[.agg #[.int .i64 x,.int .i64 y,.int .i64 k]] w fun e w'=>∃ g,e=.returned (.slice (some ⟨g,0,none⟩) 3 3)∧w.heap.size≤g∧Mp w' g (2*x+1) (2*y+1) (c1x x k) (c1y y k) (c2x x k) (c2y y k)∧Below w.heap.size w w':=by
 have hk:k=0∨k=1∨k=2∨k=3:=by omega
 rcases hk with rfl | rfl | rfl | rfl
 ·have e1:c1x x 0=2*x:=by simp [c1x,stX] <;> omega
  have e2:c1y y 0=2*y:=by simp [c1y,stY] <;> omega
  have e3:c2x x 0=2*x+2:=by simp [c2x,stX] <;> omega
  have e4:c2y y 0=2*y:=by simp [c2y,stY] <;> omega
  rw [e1,e2,e3,e4]
  exact cornersOfW_0 x y w b1 b2 b3 b4
 ·have e1:c1x x 1=2*x+2:=by simp [c1x,stX] <;> omega
  have e2:c1y y 1=2*y:=by simp [c1y,stY] <;> omega
  have e3:c2x x 1=2*x+2:=by simp [c2x,stX] <;> omega
  have e4:c2y y 1=2*y+2:=by simp [c2y,stY] <;> omega
  rw [e1,e2,e3,e4]
  exact cornersOfW_1 x y w b1 b2 b3 b4
 ·have e1:c1x x 2=2*x+2:=by simp [c1x,stX] <;> omega
  have e2:c1y y 2=2*y+2:=by simp [c1y,stY] <;> omega
  have e3:c2x x 2=2*x:=by simp [c2x,stX] <;> omega
  have e4:c2y y 2=2*y+2:=by simp [c2y,stY] <;> omega
  rw [e1,e2,e3,e4]
  exact cornersOfW_2 x y w b1 b2 b3 b4
 ·have e1:c1x x 3=2*x:=by simp [c1x,stX] <;> omega
  have e2:c1y y 3=2*y+2:=by simp [c1y,stY] <;> omega
  have e3:c2x x 3=2*x:=by simp [c2x,stX] <;> omega
  have e4:c2y y 3=2*y:=by simp [c2y,stY] <;> omega
  rw [e1,e2,e3,e4]
  exact cornersOfW_3 x y w b1 b2 b3 b4
set_option maxRecDepth 100000 in
set_option maxHeartbeats 3200000 in
theorem edgesOf_any (x y k:Int) (w:World) (b1 : -4000000≤x) (b2:x≤4000000) (b3 : -4000000≤y) (b4:y≤4000000) (k0:0≤k) (k3:k≤3) :
  Calls Tryz.prog 39 #[.agg #[.int .i64 x,.int .i64 y,.int .i64 k]] w fun e w'=>∃ g,e=.returned (.slice (some ⟨g,0,none⟩) 3 3)∧w.heap.size≤g∧Twl w' g (ue0 x y k) (ue1 x y k) (ue2 x y k) (ue3 x y k) (ue4 x y k) (ue5 x y k) (ue6 x y k) (ue7 x y k) (ue8 x y k) (ue9 x y k) (ue10 x y k) (ue11 x y k)∧Below w.heap.size w w':=by
 have C14:Hid (∀ W:World,Calls Tryz.prog 78 #[.agg #[.int .i64 x,.int .i64 y,.int .i64 k]] W fun e w'=>∃ g,e=.returned (.slice (some ⟨g,0,none⟩) 3 3)∧W.heap.size≤g∧Mp w' g (2*x+1) (2*y+1) (c1x x k) (c1y y k) (c2x x k) (c2y y k)∧Below W.heap.size W w'):=fun W=>cornersOfW_any x y k W b1 b2 b3 b4 k0 k3
 clear b1 b2 b3 b4 k0 k3
 go_enter Tryz.func39,Tryz.ntmps39
 go_wp2_with (go_at_call 78;refine (C14.out _).mono ?_;rintro r w1 ⟨g,rfl,hg,hM,hb⟩;have HB:Hid (w.heap.size≤w1.heap.size∧Below w.heap.size w w1):=⟨(bl_via (bl_alloc (bl_refl _)) hb).size,bl_via (bl_alloc (bl_refl _)) hb⟩;clear hb hg;have zg:=hM.lt;obtain ⟨m0,m1,m2,m3,m4,m5⟩:=hM)
 go_region_held3 (fun w'=>w'.cell? ⟨g,0,none⟩=some (.int .i64 (2*x+1))∧w'.cell? ⟨g,1,none⟩=some (.int .i64 (2*y+1))∧w'.cell? ⟨g,2,none⟩=some (.int .i64 (c1x x k))∧w'.cell? ⟨g,3,none⟩=some (.int .i64 (c1y y k))∧w'.cell? ⟨g,4,none⟩=some (.int .i64 (c2x x k))∧w'.cell? ⟨g,5,none⟩=some (.int .i64 (c2y y k)))
  ((refine ⟨?_, ?_, ?_, ?_, ?_, ?_⟩ <;> (with_reducible (repeat (first | assumption | refine al_old ?_ | refine dr_old ?_)))))
  (first | (go_at_call 79;refine (edgeOf_num _ _ _ _ _).mono ?_;rintro r w2 ⟨rfl,o3,o4,o5,o6,o7,rfl⟩))
 all_goals
  go_wp2
  go_ret
  refine ⟨_,rfl, ?_, ?_, ?_⟩
  ·have:=HB.out.1
   simp
   try omega
  ·simp [Twl,go_sem,ue0,ue1,ue2,ue3,ue4,ue5,ue6,ue7,ue8,ue9,ue10,ue11]
  ·with_reducible repeat' (first | exact HB.out.2 | refine bl_alloc ?_ | refine bl_drew ?_)
end Go.Proofs.YtgpjaecgkkgehaaGreatDoor
