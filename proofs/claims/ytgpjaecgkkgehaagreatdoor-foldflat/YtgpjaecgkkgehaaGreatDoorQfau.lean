/- A part of the proof of foldFlat_holds. -/
import Derived.Test.YtgpjaecgkkgehaaGreatDoorQfat
import Derived.Test.YtgpjaecgkkgehaaGreatDoorQfak
import Derived.Test.YtgpjaecgkkgehaaGreatDoorQfam
import Derived.Shelf.SlSortCmp.Kit1
import Derived.Test.YtgpjaecgkkgehaaGreatDoorQfad
namespace Go.Proofs.YtgpjaecgkkgehaaGreatDoor
open Go.RowKit
theorem own_rowf {w:World} {base e size n:Nat} {v:Value} {zs:List Int} (h:w.ownsRow base e size v n (zs.map (fun z=>Value.int .i64 z))) (hs:zs.length=n*size):∃ a c,v=.slice a n c∧RowF w base a zs:=by
 by_cases hn:0<n
 ·obtain ⟨g,cap,e1,_,e3⟩:=own_row h hn
  exact ⟨_,cap,e1,e3⟩
 ·have h0:n=0:=by omega
  subst h0
  have hz:zs=[]:=List.length_eq_zero_iff.1 (by omega)
  subst hz
  rcases h.2 with ⟨e1,_⟩ | ⟨g,cap,cur,e1,_⟩
  ·exact ⟨none,0,e1,row_nil _ _ _⟩
  ·exact ⟨_,cap,e1,row_nil _ _ _⟩
theorem ints_one (zs:List Int):∀ u∈zs.map (fun z=>Value.int .i64 z),u.oneCell'=true:=by
 intro u hu
 obtain ⟨z,_,rfl⟩:=List.mem_map.1 hu
 rfl
theorem row_none {w:World} {zs:List Int} (h:Row w none zs):zs=[]:=by
 cases zs with
 | nil=>rfl
 | cons z r =>
  obtain ⟨b,off,e,_⟩:=h 0 (by simp)
  cases e
theorem row_cells {w:World} {b off:Nat} {zs:List Int} (h:Row w (some ⟨b,off,none⟩) zs):∀ j u,(zs.map (fun z=>Value.int .i64 z))[j]?=some u→w.cell? ((⟨b,off,none⟩:Addr).add j)=some u:=by
 intro j u hu
 have hj:j<zs.length:=by
  have:=List.getElem?_eq_some_iff.1 hu
  simpa using this.1
 obtain ⟨b',off',e,hc⟩:=row_at h (by omega)
 cases e
 exact hc j u hu
theorem cloneI_any (w:World) (a:Option Addr) (c:Nat) (zs:List Int) (hz:Row w a zs) (h1:zs.length≤17592186044416) (ha:a=none∨∃ b off,a=some ⟨b,off,none⟩) :
  Calls Tryz.prog 107 #[.slice a zs.length c] w fun e w'=>∃ a' c',e=.returned (.slice a' zs.length c')∧RowF w' w.heap.size a' zs∧Below w.heap.size w w':=by
 rcases ha with rfl | ⟨b,off,rfl⟩
 ·have:=row_none hz
  subst this
  refine (clone_ints_nil w c).mono ?_
  rintro e w' ⟨rfl,rfl⟩
  exact ⟨none,0,rfl,row_nil _ _ _,bl_refl _⟩
 ·refine (clone_ints w b off zs.length c (zs.map (fun z=>Value.int .i64 z)) (by simp) (row_cells hz) (ints_one zs) (by omega)).mono ?_
  rintro e w' ⟨v,rfl,ho,hb⟩
  obtain ⟨a',c',rfl,hR⟩:=own_rowf ho (by omega)
  exact ⟨a',c',rfl,hR,hb⟩
theorem cloneC_any (w:World) (a:Option Addr) (n c:Nat) (ks:List Int) (hk:Row w a ks) (hn:ks.length=n*5) (h1:n≤3518437208883) (ha:a=none∨∃ b off,a=some ⟨b,off,none⟩) :
  Calls Tryz.prog 108 #[.slice a n c] w fun e w'=>∃ a' c',e=.returned (.slice a' n c')∧RowF w' w.heap.size a' ks∧Below w.heap.size w w':=by
 rcases ha with rfl | ⟨b,off,rfl⟩
 ·have hk0:=row_none hk
  subst hk0
  have hn0:n=0:=by simp at hn;omega
  subst hn0
  refine (clone_creases_nil w c).mono ?_
  rintro e w' ⟨rfl,rfl⟩
  exact ⟨none,0,rfl,row_nil _ _ _,bl_refl _⟩
 ·refine (clone_creases w b off n c (ks.map (fun z=>Value.int .i64 z)) (by simp [hn]) (row_cells hk) (ints_one ks) (by omega)).mono ?_
  rintro e w' ⟨v,rfl,ho,hb⟩
  obtain ⟨a',c',rfl,hR⟩:=own_rowf ho (by omega)
  exact ⟨a',c',rfl,hR,hb⟩
def CPW (w W:World) (u0 u1 u2 u3:Value):Prop:=Sh W w.heap.size u0 u1 u2 u3∧Fr W w.heap.size∧Sh W (w.heap.size+1) (.int .i64 0) (.int .i64 0) (.slice none 0 0) (.slice none 0 0)∧Fr W (w.heap.size+1)∧Below w.heap.size w W
theorem CPW.kept {w W W':World} {u0 u1 u2 u3:Value} (h:CPW w W u0 u1 u2 u3) (hb:Below W.heap.size W W'):CPW w W' u0 u1 u2 u3:=⟨h.1.kept hb,h.2.1.kept h.1.lt hb,h.2.2.1.kept hb,h.2.2.2.1.kept h.2.2.1.lt hb,bl_via h.2.2.2.2 hb⟩
theorem CPW.new (w:World) (W H:Int) (v2 v3:Value):CPW w ((w.alloc (.cells #[.int .i64 W,.int .i64 H,v2,v3] 25)).alloc (.cells #[.int .i64 0,.int .i64 0,.slice none 0 0,.slice none 0 0] 25)) (.int .i64 W) (.int .i64 H) v2 v3:=by
 refine ⟨⟨?_, ?_, ?_, ?_⟩, ?_,⟨?_, ?_, ?_, ?_⟩, ?_,bl_alloc (bl_alloc (bl_refl _))⟩
 ·simp [go_sem]
 ·simp [go_sem]
 ·simp [go_sem]
 ·simp [go_sem]
 ·simp [Fr,go_sem]
 ·simp [go_sem]
 ·simp [go_sem]
 ·simp [go_sem]
 ·simp [go_sem]
 ·simp [Fr,go_sem]
theorem CPW.set {w W:World} {u0 u1 u2 u3:Value} (h:CPW w W u0 u1 u2 u3) (v2 v3:Value):CPW w ((W.setCell ⟨w.heap.size,2,none⟩ v2).setCell ⟨w.heap.size,3,none⟩ v3) u0 u1 v2 v3:=by
 obtain ⟨⟨c0,c1,c2,c3⟩,hf,⟨d0,d1,d2,d3⟩,hg,hb⟩:=h
 obtain ⟨f0,f1,f2,f3,f4,f5⟩:=hf
 obtain ⟨g0,g1,g2,g3,g4,g5⟩:=hg
 have far:∀ {o:Nat} {u:Value},W.cell? ⟨w.heap.size+1,o,none⟩=some u→((W.setCell ⟨w.heap.size,2,none⟩ v2).setCell ⟨w.heap.size,3,none⟩ v3).cell? ⟨w.heap.size+1,o,none⟩=some u:=fun hu=>set_far (set_far hu (by simp)) (by simp)
 refine ⟨⟨?_, ?_, ?_, ?_⟩,⟨?_, ?_, ?_, ?_, ?_, ?_⟩,⟨far d0,far d1,far d2,far d3⟩,⟨?_, ?_, ?_, ?_, ?_, ?_⟩,(hb.setCell (p:=⟨w.heap.size,2,none⟩) (Nat.le_refl _) _).setCell (p:=⟨w.heap.size,3,none⟩) (Nat.le_refl _) _⟩
 ·rw [World.cell?_setCell_other _ _ _ _ (by simp),World.cell?_setCell_other _ _ _ _ (by simp)]
  exact c0
 ·rw [World.cell?_setCell_other _ _ _ _ (by simp),World.cell?_setCell_other _ _ _ _ (by simp)]
  exact c1
 ·rw [World.cell?_setCell_other _ _ _ _ (by simp)]
  exact st_same c2
 ·exact st_same (by rw [World.cell?_setCell_other _ _ _ _ (by simp)];exact c3)
 all_goals (rw [World.frozen?_setCell,World.frozen?_setCell];assumption)
def CopyTo (w w':World) (W H:Int) (n:Nat) (zs ks:List Int) (e:Ending):Prop := ∃ a ca b cb,e=.returned (.agg #[.int .i64 W,.int .i64 H,.slice a zs.length ca,.slice b n cb])∧RowF w' w.heap.size a zs∧RowF w' w.heap.size b ks∧Below w.heap.size w w'
set_option maxRecDepth 100000 in
set_option maxHeartbeats 3200000 in
theorem copy_any (W H:Int) (a b:Option Addr) (ca cb n:Nat) (zs ks:List Int) (w:World) (hz:Row w a zs) (hk:Row w b ks) (hn:ks.length=n*5) (h1:zs.length≤17592186044416) (h2:n≤3518437208883) (ha:a=none∨∃ p off,a=some ⟨p,off,none⟩) (hb:b=none∨∃ p off,b=some ⟨p,off,none⟩) :
  Calls Tryz.prog 72 #[.agg #[.int .i64 W,.int .i64 H,.slice a zs.length ca,.slice b n cb]] w fun e w'=>CopyTo w w' W H n zs ks e:=by
 have C1:Hid (∀ V:World,Below w.heap.size w V→Calls Tryz.prog 107 #[.slice a zs.length ca] V fun e w'=>∃ a' c',e=.returned (.slice a' zs.length c')∧RowF w' V.heap.size a' zs∧Below V.heap.size V w'):=fun V hV=>cloneI_any V a ca zs (hz.kept hV) h1 ha
 have C2:Hid (∀ V:World,Below w.heap.size w V→Calls Tryz.prog 108 #[.slice b n cb] V fun e w'=>∃ a' c',e=.returned (.slice a' n c')∧RowF w' V.heap.size a' ks∧Below V.heap.size V w'):=fun V hV=>cloneC_any V b n cb ks (hk.kept hV) hn h2 hb
 clear hz hk ha hb
 obtain ⟨m,hm⟩:∃ m,m=zs.length:=⟨_,rfl⟩
 rw [← hm] at C1 ⊢
 have HM:Hid (m=zs.length):=hm
 clear hm
 go_enter Tryz.func72,Tryz.ntmps72
 go_upto_region 1 with fail
 refine wp_named (fun W0 hW0=>?_)
 have HS0:Hid (CPW w W0 (.int .i64 W) (.int .i64 H) (.slice a m ca) (.slice b n cb)):=by rw [hW0];exact CPW.new w W H _ _
 have hz0:w.heap.size+1<W0.heap.size:=HS0.out.2.2.1.lt
 clear hW0
 obtain ⟨s0,s1,s2,s3⟩:=HS0.out.1
 go_cut [] (fun wx=>∃ a' ca' b' cb',CPW w wx (.int .i64 W) (.int .i64 H) (.slice a' m ca') (.slice b' n cb')∧RowF wx (w.heap.size+1+1) a' zs∧RowF wx (w.heap.size+1+1) b' ks)
 case first =>
  go_region_with (first
   | (go_at_call 107;refine (C1.out _ (by first | exact hC2.2.2.2.2 | exact bl_drew HS0.out.2.2.2.2)).mono ?_;rintro e w1 ⟨a1,k1,rfl,hR1,hb1⟩;have hC1:CPW w w1 (.int .i64 W) (.int .i64 H) (.slice a m ca) (.slice b n cb):=(by first | exact CPW.kept hC2 hb1 | exact CPW.kept (HS0.out.kept (bl_drew (bl_refl _))) hb1);have HR1:Hid (RowF w1 (w.heap.size+1+1) a1 zs):=(hR1.low (by first | exact hC2.2.2.1.lt | exact hz0));obtain ⟨p0,p1,p2,p3⟩:=hC1.1;obtain ⟨_,_,pf2,pf3,_,_⟩:=hC1.2.1;have pz:=hC1.1.lt;clear hR1)
   | (go_at_call 108;refine (C2.out _ (by first | exact hC1.2.2.2.2 | exact bl_drew HS0.out.2.2.2.2)).mono ?_;rintro e w2 ⟨a2,k2,rfl,hR2,hb2⟩;have hC2:CPW w w2 (.int .i64 W) (.int .i64 H) (.slice a m ca) (.slice b n cb):=(by first | exact CPW.kept hC1 hb2 | exact CPW.kept (HS0.out.kept (bl_drew (bl_refl _))) hb2);have HR2:Hid (RowF w2 (w.heap.size+1+1) a2 ks):=(hR2.low (by first | exact hC1.2.2.1.lt | exact hz0));obtain ⟨q0,q1,q2,q3⟩:=hC2.1;obtain ⟨_,_,qf2,qf3,_,_⟩:=hC2.2.1;have qz:=hC2.1.lt;clear hR2))
  all_goals
   go_wp2
   go_meet
   case rel =>
    refine ⟨a1,k1,a2,k2, ?_, ?_, ?_⟩
    ·first | exact hC2.set _ _ | exact hC1.set _ _
    ·first | exact ((HR1.out.kept hb2).set (by dsimp only;omega)).set (by dsimp only;omega) | exact (HR1.out.set (by dsimp only;omega)).set (by dsimp only;omega)
    ·first | exact ((HR2.out.kept hb1).set (by dsimp only;omega)).set (by dsimp only;omega) | exact (HR2.out.set (by dsimp only;omega)).set (by dsimp only;omega)
 case rest =>
  clear s0 s1 s2 s3 HS0 hz0
  obtain ⟨a1,k1,a2,k2,hC,hR1,hR2⟩:=hcut
  have HF:Hid (CPW w wc (.int .i64 W) (.int .i64 H) (.slice a1 m k1) (.slice a2 n k2)∧RowF wc (w.heap.size+1+1) a1 zs∧RowF wc (w.heap.size+1+1) a2 ks):=⟨hC,hR1,hR2⟩
  obtain ⟨⟨c0,c1,c2,c3⟩,_,⟨d0,d1,d2,d3⟩,⟨g0,g1,g2,g3,_,_⟩,_⟩:=hC
  have z0:w.heap.size<wc.heap.size:=World.block_lt_of_cell? _ _ c0
  have z1:w.heap.size+1<wc.heap.size:=World.block_lt_of_cell? _ _ d0
  clear hR1 hR2
  go_wp2
  refine bodyPost_ret (v:=.agg #[.int .i64 W,.int .i64 H,.slice a1 m k1,.slice a2 n k2]) (by simp [results,Tryz.results72,go_sem,d0,d1,d2,d3]) rfl ⟨a1,k1,a2,k2,by rw [HM.out], ?_, ?_, ?_⟩
  ·refine RowF.low (base:=w.heap.size+1+1) ?_ (by omega)
   refine RowF.set ?_ (by dsimp only;omega)
   refine RowF.set ?_ (by dsimp only;omega)
   refine RowF.set ?_ (by dsimp only;omega)
   refine RowF.set ?_ (by dsimp only;omega)
   exact HF.out.2.1
  ·refine RowF.low (base:=w.heap.size+1+1) ?_ (by omega)
   refine RowF.set ?_ (by dsimp only;omega)
   refine RowF.set ?_ (by dsimp only;omega)
   refine RowF.set ?_ (by dsimp only;omega)
   refine RowF.set ?_ (by dsimp only;omega)
   exact HF.out.2.2
  ·with_reducible repeat (first | exact HF.out.1.2.2.2.2 | refine bl_set ?_ ?_)
   all_goals (first | omega | (dsimp only;omega))
open Go.RowKit
attribute [local go_sem ↓] Go.wp_at_zero Go.wp_at_succ
def cmpT (a b c p q r:Int):Int:=or2 (cmp3 b q) (or2 (cmp3 a p) (cmp3 c r))
set_option maxHeartbeats 800000 in
theorem or3_any (m n l:Int) (g cap:Nat) (w:World) (h0:w.cell? ⟨g,0,none⟩=some (.int .i64 m)) (h1:w.cell? ⟨g,1,none⟩=some (.int .i64 n)) (h2:w.cell? ⟨g,2,none⟩=some (.int .i64 l)) :
  Calls Tryz.prog 145 #[.slice (some ⟨g,0,none⟩) 3 cap] w fun e w'=>e=.returned (.int .i64 (or2 m (or2 n l)))∧w'=w:=by
 go_enter Tryz.func145,Tryz.ntmps145
 go_wp2
 go_loopg [8] 3 (fun k s8 wx=>∃ i:Int,0≤i∧i≤3∧(k:Int)=3 - i∧s8=.int .i64 i∧(1≤i→m=0)∧(2≤i→n=0)∧(3≤i→l=0)∧wx=w)
 case atStart=>exact ⟨0,by omega,by omega,by omega,rfl,by omega,by omega,by omega,rfl⟩
 case round =>
  obtain ⟨i,i0,i2,hg,rfl,hm,hn,hl,rfl⟩:=hrel
  have hi:i=0∨i=1∨i=2∨i=3:=by omega
  rcases hi with rfl | rfl | rfl | rfl
  ·by_cases e:m=0
   ·have HE:Hid (m=0):=e
    go_wp2
    go_roundg 2
    case measure=>omega
    case rel=>exact ⟨1,by omega,by omega,by omega,by go_num,fun _=>HE.out,by omega,by omega,rfl⟩
   ·have HE:Hid (or2 m (or2 n l)=m):=by show or2 m (or2 n l)=m;simp [or2,e]
    have e':(m == 0)=false:=by simpa using e
    go_wp2
    go_ret
    exact ⟨ret_int HE.out.symm,rfl⟩
  ·have HM:Hid (m=0):=hm (by omega)
   by_cases e:n=0
   ·have HE:Hid (n=0):=e
    go_wp2
    go_roundg 1
    case measure=>omega
    case rel=>exact ⟨2,by omega,by omega,by omega,by go_num,fun _=>HM.out,fun _=>HE.out,by omega,rfl⟩
   ·have HE:Hid (or2 m (or2 n l)=n):=by show or2 m (or2 n l)=n;simp [or2,HM.out,e]
    have e':(n == 0)=false:=by simpa using e
    go_wp2
    go_ret
    exact ⟨ret_int HE.out.symm,rfl⟩
  ·have HM:Hid (m=0):=hm (by omega)
   have HN:Hid (n=0):=hn (by omega)
   by_cases e:l=0
   ·have HE:Hid (l=0):=e
    go_wp2
    go_roundg 0
    case measure=>omega
    case rel=>exact ⟨3,by omega,by omega,by omega,by go_num,fun _=>HM.out,fun _=>HN.out,fun _=>HE.out,rfl⟩
   ·have HE:Hid (or2 m (or2 n l)=l):=by show or2 m (or2 n l)=l;simp [or2,HM.out,HN.out]
    have e':(l == 0)=false:=by simpa using e
    go_wp2
    go_ret
    exact ⟨ret_int HE.out.symm,rfl⟩
  ·have HE:Hid (or2 m (or2 n l)=0):=by show or2 m (or2 n l)=0;simp [or2,hm (by omega),hn (by omega),hl (by omega)]
   go_wp2
   go_ret
   exact ⟨ret_int HE.out.symm,rfl⟩
end Go.Proofs.YtgpjaecgkkgehaaGreatDoor
namespace Go.Proofs.YtgpjaecgkkgehaaGreatDoor
open Go.RowKit Go.Shelf Go.Lib
open Go.Sort hiding Below
attribute [local go_sem ↓] Go.wp_at_zero Go.wp_at_succ
def GD (w w':World):Prop := ∃ q os,w'=grow (w.drewN q) os
theorem gd_refl (w:World):GD w w:=⟨0,#[],by rw [grow_empty];rfl⟩
theorem gd_alloc {w v:World} {o:Obj} (h:GD w v):GD w (v.alloc o):=by
 obtain ⟨q,os,rfl⟩:=h
 exact ⟨q,os ++ #[o],by rw [alloc_eq_grow,grow_grow]⟩
theorem gd_drew {w v:World} (h:GD w v):GD w v.drew:=by
 obtain ⟨q,os,rfl⟩:=h
 exact ⟨q+1,os,rfl⟩
theorem gd_via {w v u:World} (h:GD w v) (k:GD v u):GD w u:=by
 obtain ⟨q,os,rfl⟩:=h
 obtain ⟨q2,os2,rfl⟩:=k
 refine ⟨q+q2,os ++ os2, ?_⟩
 rw [← grow_grow]
 have e:(grow (w.drewN q) os).drewN q2=grow (w.drewN (q+q2)) os:=by
  simp [grow,World.drewN,Nat.add_assoc]
 rw [e]
theorem gd_below {w v:World} (h:GD w v):Below w.heap.size w v:=by
 obtain ⟨q,os,rfl⟩:=h
 exact ⟨rfl,rfl,rfl,by simp [grow,World.drewN],fun k hk=>heap_grow_old (w.drewN q) os hk⟩
set_option maxRecDepth 100000 in
set_option maxHeartbeats 6400000 in
theorem compareTris_gd (a b c p q r:Int) (w:World) :
  Calls Tryz.prog 113 #[.agg #[.int .i64 a,.int .i64 b,.int .i64 c],.agg #[.int .i64 p,.int .i64 q,.int .i64 r]] w fun e w'=>e=.returned (.int .i64 (cmpT a b c p q r))∧GD w w':=by
 go_enter Tryz.func113,Tryz.ntmps113
 go_wp2
 go_region_held3 (fun w'=>w'.cell? ⟨w.heap.size,0,none⟩=some (.int .i64 a)∧w'.cell? ⟨w.heap.size,1,none⟩=some (.int .i64 b)∧w'.cell? ⟨w.heap.size,2,none⟩=some (.int .i64 c)∧w'.cell? ⟨w.heap.size+1,0,none⟩=some (.int .i64 p)∧w'.cell? ⟨w.heap.size+1,1,none⟩=some (.int .i64 q)∧w'.cell? ⟨w.heap.size+1,2,none⟩=some (.int .i64 r))
  ((refine ⟨?_, ?_, ?_, ?_, ?_, ?_⟩ <;> (repeat' (first | (with_reducible assumption) | (dsimp only;omega) | (simp [go_sem];done) | (with_reducible refine al_old ?_) | (with_reducible refine dr_old ?_)))))
  (first | (go_at_call 146;refine (compare_any _ _ _).mono ?_;rintro e w2 ⟨rfl,rfl⟩) | (go_at_call 145;refine (or3_any (cmp3 b q) (cmp3 a p) (cmp3 c r) _ _ _ (by first | (simp [go_sem];done) | (simp [go_sem,World.cell?_alloc_past];done)) (by first | (simp [go_sem];done) | (simp [go_sem,World.cell?_alloc_past];done)) (by first | (simp [go_sem];done) | (simp [go_sem,World.cell?_alloc_past];done))).mono ?_;rintro e w3 ⟨rfl,rfl⟩))
 all_goals
  go_wp2
  go_ret
  refine ⟨rfl, ?_⟩
  with_reducible repeat' (first | exact gd_refl _ | refine gd_alloc ?_ | refine gd_drew ?_)
structure Kig (W:World) where
 w:World
 h:GD W w
theorem Kig.cells (W:World):∀ (n:Kig W) (b o:Nat),b<W.heap.size→n.w.cell? ⟨b,o,none⟩=W.cell? ⟨b,o,none⟩:=fun n b o hb=>(gd_below n.h).cell (p:=⟨b,o,none⟩) hb
theorem wp_region_kig {P:Program} {id:Nat} {Q:Exit→Act→World→Prop} {a:Act} {W:World} {l:List Oper} (hm:P.follows .mixedOrders=true) (hB:Region.lexB .any l.toArray=true)
  (h:wpQuiet P l.toArray (fun w'=>∃ n:Kig W,w'=n.w) (fun a'=>∀ w',(∃ n:Kig W,w'=n.w)→Q .normal a' w') l a):(Code.region id l.toArray true).wp P Q a W :=
 wp_region_quiet (C:=fun w'=>∃ n:Kig W,w'=n.w) hm hB ⟨⟨W.drew,gd_drew (gd_refl _)⟩,rfl⟩ (by simpa using h)
theorem kig_of {P:Program} {f:FuncId} {args:Array Value} {W:World} {n:Kig W} {v:Value}
  (h:Calls P f args n.w fun e w'=>e=.returned v∧GD n.w w'):Calls P f args n.w fun e w''=>e=.returned v∧∃ m:Kig W,w''=m.w :=
 h.mono fun _ w' ⟨he,hb⟩=>⟨he,⟨w',gd_via n.h hb⟩,rfl⟩
def At3 (w:World) (g o:Nat) (t:Int×Int×Int):Prop:=w.cell? ⟨g,o,none⟩=some (.int .i64 t.1)∧w.cell? ⟨g,o+1,none⟩=some (.int .i64 t.2.1)∧w.cell? ⟨g,o+2,none⟩=some (.int .i64 t.2.2)
set_option maxRecDepth 100000 in
set_option maxHeartbeats 6400000 in
theorem piledCmp_gd (w:World) (pb gp n pc ga na ca gb nb cb i j:Nat) (s t:Int×Int×Int) (hp:w.cell? ⟨pb,4,none⟩=some (.slice (some ⟨gp,0,none⟩) n pc)) (hna:0<na) (hnb:0<nb) (ha:w.cell? ⟨ga,0,none⟩=some (.int .i64 (i:Int))) (hb:w.cell? ⟨gb,0,none⟩=some (.int .i64 (j:Int))) (hi:i<n) (hj:j<n) (hs:At3 w gp (i*3) s) (ht:At3 w gp (j*3) t) :
  Calls Tryz.prog 143 #[.slice (some ⟨ga,0,none⟩) na ca,.slice (some ⟨gb,0,none⟩) nb cb,.pointer (some ⟨pb,0,none⟩)] w fun e w'=>e=.returned (.int .i64 (cmpT s.1 s.2.1 s.2.2 t.1 t.2.1 t.2.2))∧GD w w':=by
 obtain ⟨s1,s2,s3⟩:=s
 obtain ⟨t1,t2,t3⟩:=t
 obtain ⟨p0,p1,p2⟩:=hs
 obtain ⟨q0,q1,q2⟩:=ht
 dsimp only at p0 p1 p2 q0 q1 q2
 dsimp only
 have C:Hid (∀ W':World,Calls Tryz.prog 113 #[.agg #[.int .i64 s1,.int .i64 s2,.int .i64 s3],.agg #[.int .i64 t1,.int .i64 t2,.int .i64 t3]] W' fun e w'=>e=.returned (.int .i64 (cmpT s1 s2 s3 t1 t2 t3))∧GD W' w'):=fun W'=>compareTris_gd _ _ _ _ _ _ W'
 generalize cmpT s1 s2 s3 t1 t2 t3=z at C ⊢
 have z1:pb<w.heap.size:=World.block_lt_of_cell? _ _ hp
 have z2:ga<w.heap.size:=World.block_lt_of_cell? _ _ ha
 have z3:gb<w.heap.size:=World.block_lt_of_cell? _ _ hb
 have z4:gp<w.heap.size:=World.block_lt_of_cell? _ _ p0
 have i1:(i:Int)<(n:Int):=by omega
 have i2:(j:Int)<(n:Int):=by omega
 have i3:(0:Int)<(na:Int):=by omega
 have i4:(0:Int)<(nb:Int):=by omega
 have k1:(0:Int)≤(i:Int):=by omega
 have k2:(0:Int)≤(j:Int):=by omega
 go_enter Tryz.func143,Tryz.ntmps143
 go_wp2
 have kc:=Kig.cells w
 have kn:Nonempty (Kig w):=⟨⟨w,gd_refl _⟩⟩
 refine wp_region_kig (by kernel_rfl) (by kernel_rfl) ?_
 repeat (go_big_quiet_step ((go_at_call 113;exact kig_of (C.out _))))
 refine wpQuiet_nil ?_
 intro wq hw'
 obtain ⟨nq,hw''⟩:=hw'
 have hq:GD w wq:=hw'' ▸ nq.h
 clear hw'' nq kc kn
 have HG:Hid (GD w wq):=hq
 clear hq
 go_wp2
 go_ret
 exact ⟨rfl,HG.out⟩
open Go.RowKit Go.ChangeMaps
def Tek (e:Int×Int×Int):Value:=.agg #[.int .i64 e.1,.int .i64 e.2.1,.int .i64 e.2.2]
def TtoE (x:(Int×Int×Int)×Value×Nat):MapEntry:=⟨Tek x.1,x.2.1,x.2.2⟩
theorem Tequal27 (a b:Int×Int×Int) (w:World):(Op.equal 56 (Tek a) (Tek b)).run Tryz.prog w=.ok (decide (a=b)) w:=by
 obtain ⟨a0,a1,a2⟩:=a
 obtain ⟨b0,b1,b2⟩:=b
 have h:=eql23 a0 a1 a2 b0 b1 b2 w
 have e:sameT a0 a1 a2 b0 b1 b2=decide ((a0,a1,a2)=(b0,b1,b2)):=by simp [sameT]
 rw [e] at h
 unfold Tek
 simp only [binOp,Sem.run_bind,Sem.run_pure] at h
 cases hr:(Op.equal 56 (.agg #[.int .i64 a0,.int .i64 a1,.int .i64 a2]) (.agg #[.int .i64 b0,.int .i64 b1,.int .i64 b2])).run Tryz.prog w with
 | ok r w1 =>
  rw [hr] at h
  simpa [Result.andThen] using h
 | halt x w1 =>
  rw [hr] at h
  simp [Result.andThen] at h
theorem Tcheck27a (em:Bool) (n:Nat) (a b c:Int) (w:World):(Instr.checkKey em (n+2) 56 (.agg #[.int .i64 a,.int .i64 b,.int .i64 c])).run Tryz.prog w=.ok () w:=by
 rw [show n+2=(n+1)+1 by omega]
 unfold Instr.checkKey
 simp [run_underlying Tryz.underlying56,go_sem,checkInt]
theorem Tcheck27 (em:Bool) (a:Int×Int×Int) (w:World):(Instr.checkKey em 10000 56 (Tek a)).run Tryz.prog w=.ok () w:=Tcheck27a em 9998 _ _ _ w
theorem Tstays27 (a:Int×Int×Int) (w:World):(Instr.keyThatStays (Tek a) (Tek a)).run Tryz.prog w=.ok (Tek a) w:=by
 have:Instr.sameBits 10000 (Tek a) (Tek a)=true:=by
  unfold Tek
  show Instr.sameBits (9999+1) _ _=true
  simp [Instr.sameBits]
 simp [Instr.keyThatStays,this]
theorem Tfind27 (k:Int×Int×Int) (w:World):∀ (ls:List ((Int×Int×Int)×Value×Nat)) (i:Nat),
  ((Instr.findAsking 56 (Tek k) (ls.map TtoE) i).run Tryz.prog w=.ok none w∧∀ x∈ls,x.1≠k) ∨
  ∃ j x,(Instr.findAsking 56 (Tek k) (ls.map TtoE) i).run Tryz.prog w=.ok (some (i+j,x.2.1)) w∧ls[j]?=some x∧x.1=k
 | [],i=>Or.inl ⟨by simp [Instr.findAsking],by simp⟩
 | x :: r,i=>by
  by_cases h:k=x.1
  ·refine Or.inr ⟨0,x, ?_,rfl,h.symm⟩
   have hq:=Tequal27 k x.1 w
   rw [decide_eq_true h] at hq
   rw [List.map_cons]
   simp only [Instr.findAsking,TtoE,Sem.run_bind,hq,Result.andThen]
   rfl
  ·have hq:=Tequal27 k x.1 w
   rw [decide_eq_false h] at hq
   rcases Tfind27 k w r (i+1) with ⟨h1,h2⟩ | ⟨j,y,h1,h2,h3⟩
   ·refine Or.inl ⟨?_, ?_⟩
    ·rw [List.map_cons]
     simp only [Instr.findAsking,TtoE,Sem.run_bind,hq,Result.andThen]
     exact h1
    ·intro y hy
     rcases List.mem_cons.1 hy with rfl | hy
     ·exact fun e=>h e.symm
     ·exact h2 y hy
   ·refine Or.inr ⟨j+1,y, ?_,by simpa using h2,h3⟩
    rw [List.map_cons]
    simp only [Instr.findAsking,TtoE,Sem.run_bind,hq,Result.andThen]
    rw [show i+(j+1)=i+1+j by omega]
    exact h1
def TEM (w:World) (r:Nat) (ls:List ((Int×Int×Int)×Value×Nat)) (clock:Nat):Prop:=w.heap[r]?=some (.map (ls.map TtoE).toArray clock)
def TGood (ls:List ((Int×Int×Int)×Value×Nat)) (clock:Nat):Prop:=(ls.map (fun x=>x.1)).Nodup∧(ls.map (fun x=>x.2.2)).Nodup∧∀ x∈ls,x.2.2<clock
def Tlk:List ((Int×Int×Int)×Value×Nat)→Int×Int×Int→Option Value
 | [],_=>none
 | x :: r,k=>if x.1=k then some x.2.1 else Tlk r k
theorem Tlk_not {k:Int×Int×Int}:∀ {ls:List ((Int×Int×Int)×Value×Nat)},(∀ x∈ls,x.1≠k)→Tlk ls k=none
 | [],_=>rfl
 | x :: r,h=>by simp [Tlk,h x (by simp),Tlk_not (ls:=r) (fun y hy=>h y (by simp [hy]))]
theorem Tlk_at {k:Int×Int×Int}:∀ {ls:List ((Int×Int×Int)×Value×Nat)} {j:Nat} {x:(Int×Int×Int)×Value×Nat},(ls.map (fun x=>x.1)).Nodup→ls[j]?=some x→x.1=k→Tlk ls k=some x.2.1
 | [],_,_,_,h,_=>by simp at h
 | y :: r,0,x,_,h,hk=>by
  simp at h
  subst h
  simp [Tlk,hk]
 | y :: r,j+1,x,hn,h,hk=>by
  simp only [List.getElem?_cons_succ] at h
  simp only [List.map_cons,List.nodup_cons] at hn
  have hne:y.1≠k:=fun e=>hn.1 (List.mem_map.2 ⟨x,List.mem_of_getElem? h,hk.trans e.symm⟩)
  simp [Tlk,hne,Tlk_at hn.2 h hk]
theorem Tlk_push {ls:List ((Int×Int×Int)×Value×Nat)} {k j:Int×Int×Int} {v:Value} {c:Nat} (h:∀ x∈ls,x.1≠k):Tlk (ls ++ [(k,v,c)]) j=if j=k then some v else Tlk ls j:=by
 induction ls with
 | nil=>by_cases e:j=k
      ·simp [Tlk,e]
      ·have e':¬ k=j:=fun h=>e h.symm
       simp [Tlk,e,e']
 | cons y r ih =>
  have ih:=ih (fun x hx=>h x (by simp [hx]))
  simp only [List.cons_append,Tlk,ih]
  by_cases e:j=k
  ·subst e
   simp [h y (by simp)]
  ·simp [e]
theorem Tlk_set:∀ {ls:List ((Int×Int×Int)×Value×Nat)} {i:Nat} {x:(Int×Int×Int)×Value×Nat} {k j:Int×Int×Int} {v:Value},(ls.map (fun x=>x.1)).Nodup→ls[i]?=some x→x.1=k→Tlk (ls.set i (k,v,x.2.2)) j=if j=k then some v else Tlk ls j
 | [],_,_,_,_,_,_,h,_=>by simp at h
 | y :: r,0,x,k,j,v,_,h,hk=>by
  simp at h
  subst h
  by_cases e:j=k
  ·simp [Tlk,e]
  ·have e':¬ k=j:=fun h=>e h.symm
   simp [Tlk,e,hk,e']
 | y :: r,i+1,x,k,j,v,hn,h,hk=>by
  simp only [List.getElem?_cons_succ] at h
  simp only [List.map_cons,List.nodup_cons] at hn
  have hne:y.1≠k:=fun e=>hn.1 (List.mem_map.2 ⟨x,List.mem_of_getElem? h,hk.trans e.symm⟩)
  have ih:=Tlk_set (j:=j) (v:=v) hn.2 h hk
  simp only [List.set_cons_succ,Tlk,ih]
  by_cases e:j=k
  ·subst e
   simp [hne]
  ·simp [e]
theorem Tset_keys {ls:List ((Int×Int×Int)×Value×Nat)} {i:Nat} {x:(Int×Int×Int)×Value×Nat} (h:ls[i]?=some x) (v:Value):(ls.set i (x.1,v,x.2.2)).map (fun x=>x.1)=ls.map (fun x=>x.1)∧(ls.set i (x.1,v,x.2.2)).map (fun x=>x.2.2)=ls.map (fun x=>x.2.2):=by
 constructor
 ·rw [List.map_set]
  exact WideElems.set_self _ _ _ (by simp [h])
 ·rw [List.map_set]
  exact WideElems.set_self _ _ _ (by simp [h])
theorem Tgood_push {ls:List ((Int×Int×Int)×Value×Nat)} {clock:Nat} {k:Int×Int×Int} {v:Value} (hg:TGood ls clock) (h:∀ x∈ls,x.1≠k):TGood (ls ++ [(k,v,clock)]) (clock+1):=by
 obtain ⟨g1,g2,g3⟩:=hg
 refine ⟨?_, ?_, ?_⟩
 ·rw [List.map_append,List.nodup_append]
  refine ⟨g1,by simp,fun a ha b hb=>?_⟩
  obtain ⟨x,hx,rfl⟩:=List.mem_map.1 ha
  simp at hb
  subst hb
  exact h x hx
 ·rw [List.map_append,List.nodup_append]
  refine ⟨g2,by simp,fun a ha b hb=>?_⟩
  obtain ⟨x,hx,rfl⟩:=List.mem_map.1 ha
  simp at hb
  subst hb
  have:=g3 x hx
  omega
 ·intro x hx
  rcases List.mem_append.1 hx with hx | hx
  ·have:=g3 x hx
   omega
  ·simp at hx
   subst hx
   simp
theorem Tgood_set {ls:List ((Int×Int×Int)×Value×Nat)} {clock i:Nat} {x:(Int×Int×Int)×Value×Nat} (hg:TGood ls clock) (h:ls[i]?=some x) (v:Value):TGood (ls.set i (x.1,v,x.2.2)) clock:=by
 obtain ⟨g1,g2,g3⟩:=hg
 have hk:=Tset_keys h v
 refine ⟨hk.1 ▸ g1,hk.2 ▸ g2,fun y hy=>?_⟩
 have:y.2.2∈(ls.set i (x.1,v,x.2.2)).map (fun x=>x.2.2):=List.mem_map.2 ⟨y,hy,rfl⟩
 rw [hk.2] at this
 obtain ⟨z,hz,e⟩:=List.mem_map.1 this
 have:=g3 z hz
 omega
theorem TfindKey27 (x:Value) (es:List MapEntry) (w:World):(Instr.findKey 56 x es).run Tryz.prog w=(Instr.findAsking 56 x es).run Tryz.prog w:=by
 cases es with
 | nil=>simp [Instr.findKey,run_underlying Tryz.underlying81,Instr.findNow,Instr.findAsking]
 | cons e es=>simp [Instr.findKey,run_underlying Tryz.underlying81,Instr.findNow,Instr.sameNow]
theorem Tentry27 {T E:TypeId} {z:Value} (ht:Tryz.prog.underlying T=some (.map 56 E)) (hz:∀ u:World,(zeroValue E).run Tryz.prog u=.ok z u) {w:World} {r:Nat} {ls:List ((Int×Int×Int)×Value×Nat)} {clock:Nat} (h:TEM w r ls clock) (hg:TGood ls clock) (k:Int×Int×Int) :
  ∃ st ls1 clock1,(Instr.mapEntry T (.map (some r)) (Tek k)).run Tryz.prog w=.ok (.tuple #[(Tlk ls k).getD z,goInt st]) (setBlock w r (.map (ls1.map TtoE).toArray clock1)) ∧
   ∀ val,∃ ls' clock',TGood ls' clock'∧(∀ j,Tlk ls' j=if j=k then some val else Tlk ls j)∧(ls'.length=ls.length+if Tlk ls k=none then 1 else 0) ∧
    ∀ w2,TEM w2 r ls1 clock1→(Instr.entryStore T (.map (some r)) (goInt st) val).run Tryz.prog w2=.ok () (setBlock w2 r (.map (ls'.map TtoE).toArray clock')):=by
 have hb:=h
 unfold TEM at hb
 have hf:=fun em=>Tcheck27 em k w
 rcases Tfind27 k w ls 0 with ⟨h1,h2⟩ | ⟨j,x,h1,h2,h3⟩
 ·have h1':(Instr.findKey 56 (Tek k) (ls.map TtoE)).run Tryz.prog w=.ok none w:=(TfindKey27 _ _ _).trans h1
  refine ⟨clock,ls ++ [(k,z,clock)],clock+1, ?_,fun val=>⟨ls ++ [(k,val,clock)],clock+1,Tgood_push hg h2,fun j=>Tlk_push h2,by simp [Tlk_not h2],fun w2 hw2=>?_⟩⟩
  ·rw [Tlk_not h2]
   simp [Instr.mapEntry,run_underlying ht,MapKept.run_getObj_map hb,hf,h1',hz,MapKept.run_setObj_map _ hb,Result.andThen,setBlock,TtoE]
  ·unfold TEM at hw2
   have hidx:((ls ++ [(k,z,clock)]).map TtoE).toArray.findIdx? (fun e=>((e.born:Nat):Int) == ((clock:Nat):Int))=some ls.length:=by
    rw [WideElems.findIdx_arr]
    have hn:(((ls ++ [(k,z,clock)]).map TtoE).map (fun e=>e.born)).Nodup:=by
     have:=(Tgood_push (v:=z) hg h2).2.1
     rw [List.map_map]
     exact this
    exact WideElems.findIdx_born hn (j:=ls.length) (e0:=TtoE (k,z,clock)) (by simp)
   have hmod:((ls ++ [(k,z,clock)]).map TtoE).toArray.modify ls.length (fun e=>{ e with val:=val })=((ls ++ [(k,val,clock)]).map TtoE).toArray:=by
    apply Array.ext'
    rw [Array.toList_modify]
    have:=WideElems.modify_last (fun e:MapEntry=>{ e with val:=val }) (TtoE (k,z,clock)) (ls.map TtoE)
    rw [List.length_map] at this
    simpa [TtoE] using this
   simp only [Instr.entryStore,Sem.run_bind,MapKept.run_getObj_map hw2,Result.andThen,asInt,asIntOf,goInt,Sem.run_pure,hidx,hmod,MapKept.run_setObj_map _ hw2,setBlock]
 ·have h1':(Instr.findKey 56 (Tek k) (ls.map TtoE)).run Tryz.prog w=.ok (some (j,x.2.1)) w:=(TfindKey27 _ _ _).trans (by simpa using h1)
  have hj:((ls.map TtoE).toArray)[j]?=some (TtoE x):=by simp [h2]
  have hjl:(ls.map TtoE)[j]?=some (TtoE x):=by simp [h2]
  have hkx:(TtoE x).key=Tek k:=by simp [TtoE,h3]
  have hsame:(ls.map TtoE).toArray.modify j (fun e=>{ e with key:=Tek k })=(ls.map TtoE).toArray:=by
   apply Array.ext'
   rw [Array.toList_modify]
   show (ls.map TtoE).modify j _=ls.map TtoE
   rw [modify_eq_set _ _ _ _ hjl]
   have:({ TtoE x with key:=Tek k }:MapEntry)=TtoE x:=by rw [← hkx]
   rw [this]
   exact WideElems.set_self _ _ _ hjl
  have hst:=Tstays27 k w
  have e1:Tlk ls k=some x.2.1:=Tlk_at hg.1 h2 h3
  refine ⟨x.2.2,ls,clock, ?_,fun val=>⟨ls.set j (x.1,val,x.2.2),clock,Tgood_set hg h2 val,fun i=>by have:=Tlk_set (j:=i) (v:=val) hg.1 h2 h3;rwa [← h3] at this ⊢,by simp [e1],fun w2 hw2=>?_⟩⟩
  ·rw [e1]
   have hb0:(TtoE x).born=x.2.2:=rfl
   simp only [Instr.mapEntry,Sem.run_bind,run_underlying ht,MapKept.run_getObj_map hb,hf,h1',Result.andThen,hj,Option.map_some,Option.getD_some,hkx,hst,hsame,MapKept.run_setObj_map _ hb,Sem.run_pure,hb0,setBlock]
  ·unfold TEM at hw2
   have hidx:(ls.map TtoE).toArray.findIdx? (fun e=>((e.born:Nat):Int) == ((x.2.2:Nat):Int))=some j:=by
    rw [WideElems.findIdx_arr]
    have hn:((ls.map TtoE).map (fun e=>e.born)).Nodup:=by
     rw [List.map_map]
     exact hg.2.1
    exact WideElems.findIdx_born hn (j:=j) (e0:=TtoE x) hjl
   have hmod:(ls.map TtoE).toArray.modify j (fun e=>{ e with val:=val })=((ls.set j (x.1,val,x.2.2)).map TtoE).toArray:=by
    apply Array.ext'
    rw [Array.toList_modify]
    show (ls.map TtoE).modify j _=(ls.set j (x.1,val,x.2.2)).map TtoE
    rw [modify_eq_set _ _ _ _ hjl,List.map_set]
    rfl
   simp only [Instr.entryStore,Sem.run_bind,MapKept.run_getObj_map hw2,Result.andThen,asInt,asIntOf,goInt,Sem.run_pure,hidx,hmod,MapKept.run_setObj_map _ hw2,setBlock]
end Go.Proofs.YtgpjaecgkkgehaaGreatDoor
