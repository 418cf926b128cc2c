/- A sheet's copy: paper.Copy. -/
import Derived.Test.YtgpjaecgkkgehaaGreatDoorQfbc
namespace Go.Proofs.YtgpjaecgkkgehaaGreatDoor
open Go.RowKit
theorem own_rowf {w:World} {base e size n:Nat} {v:Value} {zs:List Int} (h:w.ownsRow base e size v n (zs.map (fun z=>Value.int .i64 z))) (hs:zs.length=n*size):∃ a c,v=.slice a n c∧RowF w base a zs:=by
 by_cases hn:0<n
 ·obtain ⟨g,cap,e1,_,e3⟩:=own_row h hn
  exact ⟨_,cap,e1,e3⟩
 ·have h0:n=0:=by omega
  subst h0
  have hz:zs=[]:=List.length_eq_zero_iff.1 (by omega)
  subst hz
  rcases h.2 with ⟨e1,_⟩ | ⟨g,cap,cur,e1,_⟩
  ·exact ⟨none,0,e1,row_nil _ _ _⟩
  ·exact ⟨_,cap,e1,row_nil _ _ _⟩
theorem ints_one (zs:List Int):∀ u∈zs.map (fun z=>Value.int .i64 z),u.oneCell'=true:=by
 intro u hu
 obtain ⟨z,_,rfl⟩:=List.mem_map.1 hu
 rfl
theorem row_none {w:World} {zs:List Int} (h:Row w none zs):zs=[]:=by
 cases zs with
 | nil=>rfl
 | cons z r =>
  obtain ⟨b,off,e,_⟩:=h 0 (by simp)
  cases e
theorem row_cells {w:World} {b off:Nat} {zs:List Int} (h:Row w (some ⟨b,off,none⟩) zs):∀ j u,(zs.map (fun z=>Value.int .i64 z))[j]?=some u→w.cell? ((⟨b,off,none⟩:Addr).add j)=some u:=by
 intro j u hu
 have hj:j<zs.length:=by
  have:=List.getElem?_eq_some_iff.1 hu
  simpa using this.1
 obtain ⟨b',off',e,hc⟩:=row_at h (by omega)
 cases e
 exact hc j u hu
theorem cloneI_any (w:World) (a:Option Addr) (c:Nat) (zs:List Int) (hz:Row w a zs) (h1:zs.length≤17592186044416) (ha:a=none∨∃ b off,a=some ⟨b,off,none⟩) :
  Calls Tryz.prog 107 #[.slice a zs.length c] w fun e w'=>∃ a' c',e=.returned (.slice a' zs.length c')∧RowF w' w.heap.size a' zs∧Below w.heap.size w w':=by
 rcases ha with rfl | ⟨b,off,rfl⟩
 ·have:=row_none hz
  subst this
  refine (clone_ints_nil w c).mono ?_
  rintro e w' ⟨rfl,rfl⟩
  exact ⟨none,0,rfl,row_nil _ _ _,bl_refl _⟩
 ·refine (clone_ints w b off zs.length c (zs.map (fun z=>Value.int .i64 z)) (by simp) (row_cells hz) (ints_one zs) (by omega)).mono ?_
  rintro e w' ⟨v,rfl,ho,hb⟩
  obtain ⟨a',c',rfl,hR⟩:=own_rowf ho (by omega)
  exact ⟨a',c',rfl,hR,hb⟩
theorem cloneC_any (w:World) (a:Option Addr) (n c:Nat) (ks:List Int) (hk:Row w a ks) (hn:ks.length=n*5) (h1:n≤3518437208883) (ha:a=none∨∃ b off,a=some ⟨b,off,none⟩) :
  Calls Tryz.prog 108 #[.slice a n c] w fun e w'=>∃ a' c',e=.returned (.slice a' n c')∧RowF w' w.heap.size a' ks∧Below w.heap.size w w':=by
 rcases ha with rfl | ⟨b,off,rfl⟩
 ·have hk0:=row_none hk
  subst hk0
  have hn0:n=0:=by simp at hn;omega
  subst hn0
  refine (clone_creases_nil w c).mono ?_
  rintro e w' ⟨rfl,rfl⟩
  exact ⟨none,0,rfl,row_nil _ _ _,bl_refl _⟩
 ·refine (clone_creases w b off n c (ks.map (fun z=>Value.int .i64 z)) (by simp [hn]) (row_cells hk) (ints_one ks) (by omega)).mono ?_
  rintro e w' ⟨v,rfl,ho,hb⟩
  obtain ⟨a',c',rfl,hR⟩:=own_rowf ho (by omega)
  exact ⟨a',c',rfl,hR,hb⟩
def CPW (w W:World) (u0 u1 u2 u3:Value):Prop:=Sh W w.heap.size u0 u1 u2 u3∧Fr W w.heap.size∧Sh W (w.heap.size+1) (.int .i64 0) (.int .i64 0) (.slice none 0 0) (.slice none 0 0)∧Fr W (w.heap.size+1)∧Below w.heap.size w W
theorem CPW.kept {w W W':World} {u0 u1 u2 u3:Value} (h:CPW w W u0 u1 u2 u3) (hb:Below W.heap.size W W'):CPW w W' u0 u1 u2 u3:=⟨h.1.kept hb,h.2.1.kept h.1.lt hb,h.2.2.1.kept hb,h.2.2.2.1.kept h.2.2.1.lt hb,bl_via h.2.2.2.2 hb⟩
theorem CPW.new (w:World) (W H:Int) (v2 v3:Value):CPW w ((w.alloc (.cells #[.int .i64 W,.int .i64 H,v2,v3] 25)).alloc (.cells #[.int .i64 0,.int .i64 0,.slice none 0 0,.slice none 0 0] 25)) (.int .i64 W) (.int .i64 H) v2 v3:=by
 refine ⟨⟨?_, ?_, ?_, ?_⟩, ?_,⟨?_, ?_, ?_, ?_⟩, ?_,bl_alloc (bl_alloc (bl_refl _))⟩
 ·simp [go_sem]
 ·simp [go_sem]
 ·simp [go_sem]
 ·simp [go_sem]
 ·simp [Fr,go_sem]
 ·simp [go_sem]
 ·simp [go_sem]
 ·simp [go_sem]
 ·simp [go_sem]
 ·simp [Fr,go_sem]
theorem CPW.set {w W:World} {u0 u1 u2 u3:Value} (h:CPW w W u0 u1 u2 u3) (v2 v3:Value):CPW w ((W.setCell ⟨w.heap.size,2,none⟩ v2).setCell ⟨w.heap.size,3,none⟩ v3) u0 u1 v2 v3:=by
 obtain ⟨⟨c0,c1,c2,c3⟩,hf,⟨d0,d1,d2,d3⟩,hg,hb⟩:=h
 obtain ⟨f0,f1,f2,f3,f4,f5⟩:=hf
 obtain ⟨g0,g1,g2,g3,g4,g5⟩:=hg
 have far:∀ {o:Nat} {u:Value},W.cell? ⟨w.heap.size+1,o,none⟩=some u→((W.setCell ⟨w.heap.size,2,none⟩ v2).setCell ⟨w.heap.size,3,none⟩ v3).cell? ⟨w.heap.size+1,o,none⟩=some u:=fun hu=>set_far (set_far hu (by simp)) (by simp)
 refine ⟨⟨?_, ?_, ?_, ?_⟩,⟨?_, ?_, ?_, ?_, ?_, ?_⟩,⟨far d0,far d1,far d2,far d3⟩,⟨?_, ?_, ?_, ?_, ?_, ?_⟩,(hb.setCell (p:=⟨w.heap.size,2,none⟩) (Nat.le_refl _) _).setCell (p:=⟨w.heap.size,3,none⟩) (Nat.le_refl _) _⟩
 ·rw [World.cell?_setCell_other _ _ _ _ (by simp),World.cell?_setCell_other _ _ _ _ (by simp)]
  exact c0
 ·rw [World.cell?_setCell_other _ _ _ _ (by simp),World.cell?_setCell_other _ _ _ _ (by simp)]
  exact c1
 ·rw [World.cell?_setCell_other _ _ _ _ (by simp)]
  exact st_same c2
 ·exact st_same (by rw [World.cell?_setCell_other _ _ _ _ (by simp)];exact c3)
 all_goals (rw [World.frozen?_setCell,World.frozen?_setCell];assumption)
def CopyTo (w w':World) (W H:Int) (n:Nat) (zs ks:List Int) (e:Ending):Prop := ∃ a ca b cb,e=.returned (.agg #[.int .i64 W,.int .i64 H,.slice a zs.length ca,.slice b n cb])∧RowF w' w.heap.size a zs∧RowF w' w.heap.size b ks∧Below w.heap.size w w'
set_option maxRecDepth 100000 in
set_option maxHeartbeats 3200000 in
theorem copy_any (W H:Int) (a b:Option Addr) (ca cb n:Nat) (zs ks:List Int) (w:World) (hz:Row w a zs) (hk:Row w b ks) (hn:ks.length=n*5) (h1:zs.length≤17592186044416) (h2:n≤3518437208883) (ha:a=none∨∃ p off,a=some ⟨p,off,none⟩) (hb:b=none∨∃ p off,b=some ⟨p,off,none⟩) :
  Calls Tryz.prog 72 #[.agg #[.int .i64 W,.int .i64 H,.slice a zs.length ca,.slice b n cb]] w fun e w'=>CopyTo w w' W H n zs ks e:=by
 have C1:Hid (∀ V:World,Below w.heap.size w V→Calls Tryz.prog 107 #[.slice a zs.length ca] V fun e w'=>∃ a' c',e=.returned (.slice a' zs.length c')∧RowF w' V.heap.size a' zs∧Below V.heap.size V w'):=fun V hV=>cloneI_any V a ca zs (hz.kept hV) h1 ha
 have C2:Hid (∀ V:World,Below w.heap.size w V→Calls Tryz.prog 108 #[.slice b n cb] V fun e w'=>∃ a' c',e=.returned (.slice a' n c')∧RowF w' V.heap.size a' ks∧Below V.heap.size V w'):=fun V hV=>cloneC_any V b n cb ks (hk.kept hV) hn h2 hb
 clear hz hk ha hb
 obtain ⟨m,hm⟩:∃ m,m=zs.length:=⟨_,rfl⟩
 rw [← hm] at C1 ⊢
 have HM:Hid (m=zs.length):=hm
 clear hm
 go_enter Tryz.func72,Tryz.ntmps72
 go_upto_region 1 with fail
 refine wp_named (fun W0 hW0=>?_)
 have HS0:Hid (CPW w W0 (.int .i64 W) (.int .i64 H) (.slice a m ca) (.slice b n cb)):=by rw [hW0];exact CPW.new w W H _ _
 have hz0:w.heap.size+1<W0.heap.size:=HS0.out.2.2.1.lt
 clear hW0
 obtain ⟨s0,s1,s2,s3⟩:=HS0.out.1
 go_cut [] (fun wx=>∃ a' ca' b' cb',CPW w wx (.int .i64 W) (.int .i64 H) (.slice a' m ca') (.slice b' n cb')∧RowF wx (w.heap.size+1+1) a' zs∧RowF wx (w.heap.size+1+1) b' ks)
 case first =>
  go_region_with (first
   | (go_at_call 107;refine (C1.out _ (by first | exact hC2.2.2.2.2 | exact bl_drew HS0.out.2.2.2.2)).mono ?_;rintro e w1 ⟨a1,k1,rfl,hR1,hb1⟩;have hC1:CPW w w1 (.int .i64 W) (.int .i64 H) (.slice a m ca) (.slice b n cb):=(by first | exact CPW.kept hC2 hb1 | exact CPW.kept (HS0.out.kept (bl_drew (bl_refl _))) hb1);have HR1:Hid (RowF w1 (w.heap.size+1+1) a1 zs):=(hR1.low (by first | exact hC2.2.2.1.lt | exact hz0));obtain ⟨p0,p1,p2,p3⟩:=hC1.1;obtain ⟨_,_,pf2,pf3,_,_⟩:=hC1.2.1;have pz:=hC1.1.lt;clear hR1)
   | (go_at_call 108;refine (C2.out _ (by first | exact hC1.2.2.2.2 | exact bl_drew HS0.out.2.2.2.2)).mono ?_;rintro e w2 ⟨a2,k2,rfl,hR2,hb2⟩;have hC2:CPW w w2 (.int .i64 W) (.int .i64 H) (.slice a m ca) (.slice b n cb):=(by first | exact CPW.kept hC1 hb2 | exact CPW.kept (HS0.out.kept (bl_drew (bl_refl _))) hb2);have HR2:Hid (RowF w2 (w.heap.size+1+1) a2 ks):=(hR2.low (by first | exact hC1.2.2.1.lt | exact hz0));obtain ⟨q0,q1,q2,q3⟩:=hC2.1;obtain ⟨_,_,qf2,qf3,_,_⟩:=hC2.2.1;have qz:=hC2.1.lt;clear hR2))
  all_goals
   go_wp2
   go_meet
   case rel =>
    refine ⟨a1,k1,a2,k2, ?_, ?_, ?_⟩
    ·first | exact hC2.set _ _ | exact hC1.set _ _
    ·first | exact ((HR1.out.kept hb2).set (by dsimp only;omega)).set (by dsimp only;omega) | exact (HR1.out.set (by dsimp only;omega)).set (by dsimp only;omega)
    ·first | exact ((HR2.out.kept hb1).set (by dsimp only;omega)).set (by dsimp only;omega) | exact (HR2.out.set (by dsimp only;omega)).set (by dsimp only;omega)
 case rest =>
  clear s0 s1 s2 s3 HS0 hz0
  obtain ⟨a1,k1,a2,k2,hC,hR1,hR2⟩:=hcut
  have HF:Hid (CPW w wc (.int .i64 W) (.int .i64 H) (.slice a1 m k1) (.slice a2 n k2)∧RowF wc (w.heap.size+1+1) a1 zs∧RowF wc (w.heap.size+1+1) a2 ks):=⟨hC,hR1,hR2⟩
  obtain ⟨⟨c0,c1,c2,c3⟩,_,⟨d0,d1,d2,d3⟩,⟨g0,g1,g2,g3,_,_⟩,_⟩:=hC
  have z0:w.heap.size<wc.heap.size:=World.block_lt_of_cell? _ _ c0
  have z1:w.heap.size+1<wc.heap.size:=World.block_lt_of_cell? _ _ d0
  clear hR1 hR2
  go_wp2
  refine bodyPost_ret (v:=.agg #[.int .i64 W,.int .i64 H,.slice a1 m k1,.slice a2 n k2]) (by simp [results,Tryz.results72,go_sem,d0,d1,d2,d3]) rfl ⟨a1,k1,a2,k2,by rw [HM.out], ?_, ?_, ?_⟩
  ·refine RowF.low (base:=w.heap.size+1+1) ?_ (by omega)
   refine RowF.set ?_ (by dsimp only;omega)
   refine RowF.set ?_ (by dsimp only;omega)
   refine RowF.set ?_ (by dsimp only;omega)
   refine RowF.set ?_ (by dsimp only;omega)
   exact HF.out.2.1
  ·refine RowF.low (base:=w.heap.size+1+1) ?_ (by omega)
   refine RowF.set ?_ (by dsimp only;omega)
   refine RowF.set ?_ (by dsimp only;omega)
   refine RowF.set ?_ (by dsimp only;omega)
   refine RowF.set ?_ (by dsimp only;omega)
   exact HF.out.2.2
  ·with_reducible repeat (first | exact HF.out.1.2.2.2.2 | refine bl_set ?_ ?_)
   all_goals (first | omega | (dsimp only;omega))
end Go.Proofs.YtgpjaecgkkgehaaGreatDoor
