/- A part of the proof of foldFlat_holds. -/
import Derived.Test.YtgpjaecgkkgehaaGreatDoorQfbv
import Derived.Test.YtgpjaecgkkgehaaGreatDoorQfbw
import Derived.Test.YtgpjaecgkkgehaaGreatDoorQfbx
namespace Go.Proofs.YtgpjaecgkkgehaaGreatDoor
open Go.RowKit Go.ChangeMaps
set_option maxRecDepth 100000 in
set_option maxHeartbeats 6400000 in
theorem may49 (W H:Int) (a c:Option Addr) (zl ca n cc:Nat) (w:World) (bb:Bool) (CL:Hid (∀ V:World,Below w.heap.size w V→Calls Tryz.prog 65 #[.agg #[.int .i64 W,.int .i64 H,.slice a zl ca,.slice c n cc]] V fun e w'=>∃ ad m' cc' x y,e=.returned (.tuple #[.agg #[.slice ad m' cc',.map x,.map y],.bool bb])∧Below V.heap.size V w')) :
  Calls Tryz.prog 49 #[.agg #[.int .i64 W,.int .i64 H,.slice a zl ca,.slice c n cc]] w fun e w'=>e=.returned (.bool bb)∧Below w.heap.size w w':=by
 go_enter Tryz.func49,Tryz.ntmps49
 go_wp2_with (go_at_call 65;refine (CL.out _ (by with_reducible exact bl_alloc (bl_refl _))).mono ?_;rintro e w2 ⟨ad,m',cc',x,y,rfl,hb⟩;have HB:Hid (Below w.heap.size w w2):=bl_via (bl_alloc (bl_refl _)) hb;clear hb)
 go_ret
 refine ⟨rfl, ?_⟩
 have:=HB.out.size
 with_reducible repeat (first | exact HB.out | refine bl_alloc ?_ | refine bl_set ?_ ?_)
 all_goals first | exact HB.out | (dsimp only;omega)
theorem row_zero (w:World):Row (w.alloc (.cells #[.int .i64 0] 3)) (some ⟨w.heap.size,0,none⟩) [0]:=fun i hi=>by
 obtain rfl:i=0:=by simpa using hi
 exact ⟨_,_,rfl,by simp [go_sem]⟩
set_option maxRecDepth 100000 in
set_option maxHeartbeats 6400000 in
theorem flat_no0 (W H:Int) (a c:Option Addr) (zl ca n cc:Nat) (w:World) (hn:n=0) (CL:Hid (∀ (V:World) (g:Nat),Below w.heap.size w V→Row V (some ⟨g,0,none⟩) [0]→Calls Tryz.prog 7 #[.agg #[.int .i64 W,.int .i64 H,.slice a zl ca,.slice c n cc],.slice (some ⟨g,0,none⟩) 1 1] V fun e w'=>e=.returned (.tuple #[.agg #[.int .i64 0,.int .i64 0,.slice none 0 0,.slice none 0 0,.slice none 0 0,.slice none 0 0],.int .i64 10])∧Below V.heap.size V w')) :
  Calls Tryz.prog 16 #[.agg #[.int .i64 W,.int .i64 H,.slice a zl ca,.slice c n cc]] w fun e w'=>e=.returned (.tuple #[.agg #[.int .i64 0,.int .i64 0,.slice none 0 0,.slice none 0 0,.slice none 0 0,.slice none 0 0],.int .i64 10])∧Below w.heap.size w w':=by
 subst hn
 go_enter Tryz.func16,Tryz.ntmps16
 go_upto_region 1 with fail
 refine wp_named (fun W0 hW0=>?_)
 have hw0:Below w.heap.size w W0:=by rw [hW0];exact bl_alloc (bl_alloc (bl_refl _))
 have s0:W0.cell? ⟨w.heap.size,0,none⟩=some (.int .i64 W):=by rw [hW0];simp [go_sem]
 have s1:W0.cell? ⟨w.heap.size,1,none⟩=some (.int .i64 H):=by rw [hW0];simp [go_sem]
 have s2:W0.cell? ⟨w.heap.size,2,none⟩=some (.slice a zl ca):=by rw [hW0];simp [go_sem]
 have s3:W0.cell? ⟨w.heap.size,3,none⟩=some (.slice c 0 cc):=by rw [hW0];simp [go_sem]
 have zS:w.heap.size<W0.heap.size:=World.block_lt_of_cell? _ _ s0
 have HX:Hid (BoxR W0 (w.heap.size+1)):=by
  have:BoxR W0 (w.heap.size+1):=by rw [hW0];exact boxR_new _
  exact this
 clear hW0
 go_wp2_with ((go_at_call 7;refine (CL.out _ _ (by with_reducible exact bl_alloc hw0) (row_zero _)).mono ?_;rintro e w2 ⟨rfl,hb2⟩;have H2:Hid (Below w.heap.size w w2∧BoxR w2 (w.heap.size+1)):=⟨bl_via (bl_alloc hw0) hb2,((HX.out).kept (bl_alloc (bl_refl _))).kept hb2⟩;(obtain ⟨⟨b0,b1,b2,b3,b4,b5⟩,bf⟩:=H2.out.2;have k0:=bf 0;have k1:=bf 1;have k2:=bf 2;have k3:=bf 3;have k4:=bf 4;have k5:=bf 5;have zb:=World.block_lt_of_cell? _ _ b0;dsimp only at zb;clear bf);clear hb2))
 refine bodyPost_ret (v:=.tuple #[.agg #[.int .i64 0,.int .i64 0,.slice none 0 0,.slice none 0 0,.slice none 0 0,.slice none 0 0],.int .i64 10]) (by simp [results,Tryz.results16,go_sem, *]) rfl ⟨rfl, ?_⟩
 with_reducible repeat (refine bl_set ?_ ?_)
 all_goals first | exact H2.out.1 | (dsimp only;omega)
set_option maxRecDepth 100000 in
set_option maxHeartbeats 6400000 in
theorem flat_no1 (W H:Int) (a c:Option Addr) (zl ca n cc:Nat) (w:World) (hn:0<n) (CL:Hid (∀ (V:World) (g:Nat),Below w.heap.size w V→Row V (some ⟨g,0,none⟩) [0]→Calls Tryz.prog 7 #[.agg #[.int .i64 W,.int .i64 H,.slice a zl ca,.slice c n cc],.slice (some ⟨g,0,none⟩) 1 1] V fun e w'=>e=.returned (.tuple #[.agg #[.int .i64 0,.int .i64 0,.slice none 0 0,.slice none 0 0,.slice none 0 0,.slice none 0 0],.int .i64 10])∧Below V.heap.size V w')) (CM:Hid (∀ V:World,Below w.heap.size w V→Calls Tryz.prog 49 #[.agg #[.int .i64 W,.int .i64 H,.slice a zl ca,.slice c n cc]] V fun e w'=>e=.returned (.bool false)∧Below V.heap.size V w')) :
  Calls Tryz.prog 16 #[.agg #[.int .i64 W,.int .i64 H,.slice a zl ca,.slice c n cc]] w fun e w'=>e=.returned (.tuple #[.agg #[.int .i64 0,.int .i64 0,.slice none 0 0,.slice none 0 0,.slice none 0 0,.slice none 0 0],.int .i64 10])∧Below w.heap.size w w':=by
 have n1:(0:Int)<(n:Int):=by omega
 go_enter Tryz.func16,Tryz.ntmps16
 go_upto_region 1 with fail
 refine wp_named (fun W0 hW0=>?_)
 have hw0:Below w.heap.size w W0:=by rw [hW0];exact bl_alloc (bl_alloc (bl_refl _))
 have s0:W0.cell? ⟨w.heap.size,0,none⟩=some (.int .i64 W):=by rw [hW0];simp [go_sem]
 have s1:W0.cell? ⟨w.heap.size,1,none⟩=some (.int .i64 H):=by rw [hW0];simp [go_sem]
 have s2:W0.cell? ⟨w.heap.size,2,none⟩=some (.slice a zl ca):=by rw [hW0];simp [go_sem]
 have s3:W0.cell? ⟨w.heap.size,3,none⟩=some (.slice c n cc):=by rw [hW0];simp [go_sem]
 have zS:w.heap.size<W0.heap.size:=World.block_lt_of_cell? _ _ s0
 have HX:Hid (BoxR W0 (w.heap.size+1)):=by
  have:BoxR W0 (w.heap.size+1):=by rw [hW0];exact boxR_new _
  exact this
 clear hW0
 go_wp2_with (first | (go_at_call 49;refine (CM.out _ hw0).mono ?_;rintro e w1 ⟨rfl,hb1⟩;have H1:Hid (Below w.heap.size w w1∧BoxR w1 (w.heap.size+1)):=⟨bl_via hw0 hb1,HX.out.kept hb1⟩;replace s0:=cl_kept hb1 s0;replace s1:=cl_kept hb1 s1;replace s2:=cl_kept hb1 s2;replace s3:=cl_kept hb1 s3;replace zS:=World.block_lt_of_cell? _ _ s0;clear hb1) | (go_at_call 7;refine (CL.out _ _ (by with_reducible exact bl_alloc H1.out.1) (row_zero _)).mono ?_;rintro e w2 ⟨rfl,hb2⟩;have H2:Hid (Below w.heap.size w w2∧BoxR w2 (w.heap.size+1)):=⟨bl_via (bl_alloc H1.out.1) hb2,((H1.out.2).kept (bl_alloc (bl_refl _))).kept hb2⟩;(obtain ⟨⟨b0,b1,b2,b3,b4,b5⟩,bf⟩:=H2.out.2;have k0:=bf 0;have k1:=bf 1;have k2:=bf 2;have k3:=bf 3;have k4:=bf 4;have k5:=bf 5;have zb:=World.block_lt_of_cell? _ _ b0;dsimp only at zb;clear bf);clear hb2))
 refine bodyPost_ret (v:=.tuple #[.agg #[.int .i64 0,.int .i64 0,.slice none 0 0,.slice none 0 0,.slice none 0 0,.slice none 0 0],.int .i64 10]) (by simp [results,Tryz.results16,go_sem, *]) rfl ⟨rfl, ?_⟩
 with_reducible repeat (refine bl_set ?_ ?_)
 all_goals first | exact H2.out.1 | (dsimp only;omega)
set_option maxRecDepth 100000 in
set_option maxHeartbeats 6400000 in
theorem flat_kind (W H:Int) (a c:Option Addr) (zl ca n cc:Nat) (w:World) (hn:0<n) (CM:Hid (∀ V:World,Below w.heap.size w V→Calls Tryz.prog 49 #[.agg #[.int .i64 W,.int .i64 H,.slice a zl ca,.slice c n cc]] V fun e w'=>e=.returned (.bool true)∧Below V.heap.size V w')) :
  Calls Tryz.prog 16 #[.agg #[.int .i64 W,.int .i64 H,.slice a zl ca,.slice c n cc]] w fun e w'=>e=.returned (.tuple #[.agg #[.int .i64 0,.int .i64 0,.slice none 0 0,.slice none 0 0,.slice none 0 0,.slice none 0 0],.int .i64 4])∧Below w.heap.size w w':=by
 have n1:(0:Int)<(n:Int):=by omega
 go_enter Tryz.func16,Tryz.ntmps16
 go_upto_region 1 with fail
 refine wp_named (fun W0 hW0=>?_)
 have hw0:Below w.heap.size w W0:=by rw [hW0];exact bl_alloc (bl_alloc (bl_refl _))
 have s0:W0.cell? ⟨w.heap.size,0,none⟩=some (.int .i64 W):=by rw [hW0];simp [go_sem]
 have s1:W0.cell? ⟨w.heap.size,1,none⟩=some (.int .i64 H):=by rw [hW0];simp [go_sem]
 have s2:W0.cell? ⟨w.heap.size,2,none⟩=some (.slice a zl ca):=by rw [hW0];simp [go_sem]
 have s3:W0.cell? ⟨w.heap.size,3,none⟩=some (.slice c n cc):=by rw [hW0];simp [go_sem]
 have zS:w.heap.size<W0.heap.size:=World.block_lt_of_cell? _ _ s0
 have HX:Hid (BoxR W0 (w.heap.size+1)):=by
  have:BoxR W0 (w.heap.size+1):=by rw [hW0];exact boxR_new _
  exact this
 clear hW0
 go_wp2_with ((go_at_call 49;refine (CM.out _ hw0).mono ?_;rintro e w1 ⟨rfl,hb1⟩;have H1:Hid (Below w.heap.size w w1∧BoxR w1 (w.heap.size+1)):=⟨bl_via hw0 hb1,HX.out.kept hb1⟩;replace s0:=cl_kept hb1 s0;replace s1:=cl_kept hb1 s1;replace s2:=cl_kept hb1 s2;replace s3:=cl_kept hb1 s3;replace zS:=World.block_lt_of_cell? _ _ s0;(obtain ⟨⟨b0,b1,b2,b3,b4,b5⟩,bf⟩:=H1.out.2;have k0:=bf 0;have k1:=bf 1;have k2:=bf 2;have k3:=bf 3;have k4:=bf 4;have k5:=bf 5;have zb:=World.block_lt_of_cell? _ _ b0;dsimp only at zb;clear bf);clear hb1))
 refine bodyPost_ret (v:=.tuple #[.agg #[.int .i64 0,.int .i64 0,.slice none 0 0,.slice none 0 0,.slice none 0 0,.slice none 0 0],.int .i64 4]) (by simp [results,Tryz.results16,go_sem, *]) rfl ⟨rfl, ?_⟩
 with_reducible repeat (refine bl_set ?_ ?_)
 all_goals first | exact H1.out.1 | (dsimp only;omega)
set_option maxRecDepth 100000 in
set_option maxHeartbeats 6400000 in
theorem flat_ok (W H:Int) (a c:Option Addr) (zl ca cc nn:Nat) (zs ks:List Int) (M:Nat→M6) (S:List ((Int×Int×Int)×List (Int×Int×Int))) (w:World) (CL:Hid (∀ (V:World) (g:Nat),Below w.heap.size w V→Row V (some ⟨g,0,none⟩) [0]→Calls Tryz.prog 7 #[.agg #[.int .i64 W,.int .i64 H,.slice a zl ca,.slice c 0 cc],.slice (some ⟨g,0,none⟩) 1 1] V fun e w'=>∃ v,e=.returned (.tuple #[v,.int .i64 0])∧HeapF V w' W H zl 0 nn zs ks M S (.returned v))) :
  Calls Tryz.prog 16 #[.agg #[.int .i64 W,.int .i64 H,.slice a zl ca,.slice c 0 cc]] w fun e w'=>∃ v,e=.returned (.tuple #[v,.int .i64 0])∧HeapF w w' W H zl 0 nn zs ks M S (.returned v):=by
 go_enter Tryz.func16,Tryz.ntmps16
 go_upto_region 1 with fail
 refine wp_named (fun W0 hW0=>?_)
 have hw0:Below w.heap.size w W0:=by rw [hW0];exact bl_alloc (bl_alloc (bl_refl _))
 have s0:W0.cell? ⟨w.heap.size,0,none⟩=some (.int .i64 W):=by rw [hW0];simp [go_sem]
 have s1:W0.cell? ⟨w.heap.size,1,none⟩=some (.int .i64 H):=by rw [hW0];simp [go_sem]
 have s2:W0.cell? ⟨w.heap.size,2,none⟩=some (.slice a zl ca):=by rw [hW0];simp [go_sem]
 have s3:W0.cell? ⟨w.heap.size,3,none⟩=some (.slice c 0 cc):=by rw [hW0];simp [go_sem]
 have zS:w.heap.size<W0.heap.size:=World.block_lt_of_cell? _ _ s0
 have HX:Hid (BoxR W0 (w.heap.size+1)):=by
  have:BoxR W0 (w.heap.size+1):=by rw [hW0];exact boxR_new _
  exact this
 clear hW0
 have zB:w.heap.size+1<W0.heap.size:=World.block_lt_of_cell? _ _ HX.out.1.1
 go_wp2_with (go_at_call 7;refine (CL.out _ _ (by with_reducible exact bl_alloc hw0) (row_zero _)).mono ?_;rintro e w2 ⟨v,rfl,a5,ca5,b5',cb5,g5,c5,t5,u5,ev,r1,r2,r3,r4,hb2⟩;cases ev;have H2:Hid (RowF w2 (W0.heap.size+1) a5 zs∧RowF w2 (W0.heap.size+1) b5' ks∧(MRow w2 g5 nn M∧W0.heap.size+1≤g5)∧SRowE w2 (W0.heap.size+1) t5 S∧Below w.heap.size w w2∧BoxR w2 (w.heap.size+1)):=(by rw [World.size_alloc] at r1 r2 r3 r4;exact ⟨r1,r2,r3,r4,bl_via (bl_alloc hw0) hb2,(HX.out.kept (bl_alloc (bl_refl _))).kept hb2⟩);(obtain ⟨⟨b0,b1,b2,b3,b4,b5⟩,bf⟩:=H2.out.2.2.2.2.2;have k0:=bf 0;have k1:=bf 1;have k2:=bf 2;have k3:=bf 3;have k4:=bf 4;have k5:=bf 5;have zb:=World.block_lt_of_cell? _ _ b0;dsimp only at zb;clear bf);clear r1 r2 r3 r4 hb2)
 refine bodyPost_ret (v:=.tuple #[.agg #[.int .i64 W,.int .i64 H,.slice a5 zl ca5,.slice b5' 0 cb5,.slice (some ⟨g5,0,none⟩) nn c5,.slice t5 S.length u5],.int .i64 0]) (by simp [results,Tryz.results16,go_sem, *]) rfl ⟨_,rfl,a5,ca5,b5',cb5,g5,c5,t5,u5,rfl, ?_, ?_,⟨?_, ?_⟩, ?_, ?_⟩
 ·refine RowF.low (base:=W0.heap.size+1) ?_ (by omega)
  with_reducible repeat (refine RowF.set ?_ (by dsimp only;omega))
  exact H2.out.1
 ·refine RowF.low (base:=W0.heap.size+1) ?_ (by omega)
  with_reducible repeat (refine RowF.set ?_ (by dsimp only;omega))
  exact H2.out.2.1
 ·have h1:=H2.out.2.2.1.2
  have hne:g5≠w.heap.size+1:=by omega
  with_reducible repeat (refine MRow.setE ?_ hne)
  exact H2.out.2.2.1.1
 ·have h1:=H2.out.2.2.1.2
  omega
 ·refine SRowE.low (base:=W0.heap.size+1) ?_ (by omega)
  with_reducible repeat (refine SRowE.set ?_ (by dsimp only;omega))
  exact H2.out.2.2.2.1
 ·with_reducible repeat (refine bl_set ?_ ?_)
  all_goals first | exact H2.out.2.2.2.2.1 | (dsimp only;omega)
open Go.RowKit Go.ChangeMaps
set_option maxRecDepth 100000 in
set_option maxHeartbeats 6400000 in
theorem flatOf_any (W H b off cap m n ccap nn:Nat) (cb:Option Addr) (zs ks:List Int) (L:List (Int×Int×Int)) (w:World)
  (CT:Hid (∀ W':World,Below w.heap.size w W'→Calls Tryz.prog 38 #[.agg #[.int .i64 (W:Int),.int .i64 (H:Int),.slice (some ⟨b,off,none⟩) m cap,.slice cb n ccap]] W' fun e w'=>∃ a c,e=.returned (.slice a nn c)∧TRow w' a L∧Below W'.heap.size W' w'))
  (CO:Hid (∀ W':World,Below w.heap.size w W'→Calls Tryz.prog 8 #[.agg #[.int .i64 (W:Int),.int .i64 (H:Int),.slice (some ⟨b,off,none⟩) m cap,.slice cb n ccap]] W' fun e w'=>∃ a' ca' b' cb',e=.returned (.agg #[.int .i64 (W:Int),.int .i64 (H:Int),.slice a' m ca',.slice b' n cb'])∧RowF w' W'.heap.size a' zs∧RowF w' W'.heap.size b' ks∧Below W'.heap.size W' w'))
  (hnn:nn=L.length) (h0:0<nn) (hlen:nn≤256) (hbd:∀ t∈L,(0≤t.1∧t.1≤8)∧(0≤t.2.1∧t.2.1≤8)∧(0≤t.2.2∧t.2.2≤3)) (hnd:L.Nodup) :
  Calls Tryz.prog 17 #[.agg #[.int .i64 (W:Int),.int .i64 (H:Int),.slice (some ⟨b,off,none⟩) m cap,.slice cb n ccap]] w fun e w'=>HeapF w w' (W:Int) (H:Int) m n nn zs ks (fun _=>idM) (trS L (hpN (mvP L (fun _=>idM)) (hvs ((List.range nn).map fun _=>0)) nn)) e:=by
 obtain ⟨i3,hi3,hz0,hz1,hz2⟩:=info_parts inf3
 have HI3:Hid (Tryz.prog.info? 3=some i3∧i3.zero=some (.int .i64 0)∧i3.size=1∧i3.bytes=8):=⟨hi3,hz0,hz1,hz2⟩
 obtain ⟨i6,hi6,hz60,hz61,hz62⟩:=info_parts inf59
 have HI6:Hid (Tryz.prog.info? 89=some i6∧i6.zero=some (.agg #[.int .i64 0,.int .i64 0,.int .i64 0,.int .i64 0,.int .i64 0,.int .i64 0])∧i6.size=6∧i6.bytes=48):=⟨hi6,hz60,hz61,hz62⟩
 have CH:Hid (∀ (W':World) (gm g9:Nat) (M:Nat→M6),Below w.heap.size w W'→MRow W' gm nn (fun _=>idM)→ZRow W' g9 nn (fun _=>0)→Calls Tryz.prog 48 #[.agg #[.int .i64 (W:Int),.int .i64 (H:Int),.slice (some ⟨b,off,none⟩) m cap,.slice cb n ccap],.slice (some ⟨gm,0,none⟩) nn nn,.slice (some ⟨g9,0,none⟩) nn nn] W' fun e w'=>HeapF W' w' (W:Int) (H:Int) m n nn zs ks (fun _=>idM) (trS L (hpN (mvP L (fun _=>idM)) (hvs ((List.range nn).map fun _=>0)) nn)) e):=fun W' gm g9 M hb hM hz=>heaped_any W H b off cap m n ccap nn gm nn g9 0 nn cb zs ks ((List.range nn).map fun _=>0) L (fun _=>idM) W' (fun V hV=>CT.out V (bl_via hb hV)) (fun V hV=>CO.out V (bl_via hb hV)) hnn h0 hlen hM (fun _ _=>idM_good.mono (by omega)) (zrow_row hz) (by simp) hbd hnd
 clear hnn hbd hnd hi3 hz0 hz1 hz2 hi6 hz60 hz61 hz62 CO
 go_enter Tryz.func17,Tryz.ntmps17
 go_upto_region 1 with fail
 refine wp_named (fun W0 hW0=>?_)
 have hw0:Below w.heap.size w W0:=by rw [hW0];exact bl_alloc (bl_alloc (bl_refl _))
 have x00:W0.cell? ⟨w.heap.size,0,none⟩=some (.int .i64 (W:Int)):=by rw [hW0];simp [go_sem]
 have x01:W0.cell? ⟨w.heap.size,1,none⟩=some (.int .i64 (H:Int)):=by rw [hW0];simp [go_sem]
 have x02:W0.cell? ⟨w.heap.size,2,none⟩=some (.slice (some ⟨b,off,none⟩) m cap):=by rw [hW0];simp [go_sem]
 have x03:W0.cell? ⟨w.heap.size,3,none⟩=some (.slice cb n ccap):=by rw [hW0];simp [go_sem]
 have z0:w.heap.size+1<W0.heap.size:=by rw [hW0];simp
 have HXB0:Hid (BoxR W0 (w.heap.size+1)):=by
  have:BoxR W0 (w.heap.size+1):=by rw [hW0];exact boxR_new _
  exact this
 clear hW0
 go_wp2_with (first
  | (go_at_call 38;refine (CT.out _ hw0).mono ?_;rintro e w2 ⟨a7,c7,rfl,hT,hb⟩;have y0:=cl_kept hb x00;have y1:=cl_kept hb x01;have y2:=cl_kept hb x02;have y3:=cl_kept hb x03;have HXB:Hid (BoxR w2 (w.heap.size+1)):=HXB0.out.kept hb;have H2:Hid (Below w.heap.size w w2):=bl_via hw0 hb;have z2:w.heap.size+1<w2.heap.size:=Nat.lt_of_lt_of_le z0 hb.size;clear hT hb)
  | (at_make;refine wpList_make_full _ rfl (.tmp 10) (.tmp 10) 26 rfl w2.heap.size 89 i6 (.agg #[.int .i64 0,.int .i64 0,.int .i64 0,.int .i64 0,.int .i64 0,.int .i64 0]) 6 Tryz.underlying26 HI6.out.1 HI6.out.2.1 HI6.out.2.2.1 .i64 .i64 _ _ nn rfl rfl rfl rfl ?b2 ?b3 ?b4 ?mk))
 case b2 =>
  rw [HI6.out.2.2.2]
  omega
 case b3 =>
  unfold maxLen
  omega
 case b4=>exact Nat.le_refl _
 case mk =>
  intro w3 ho hg
  have hrow:=maps_made ho
  have hbl:Below w2.heap.size w2 w3:=(Below.refl _ _).grown hg (Nat.le_refl _) (fun k h=>by cases h)
  have hlt:w2.heap.size<w3.heap.size:=World.block_lt_of_cell? _ _ (hrow 0 h0).1.1
  have HW3:Hid (MRow w3 w2.heap.size nn (fun _=>noM)∧Below w2.heap.size w2 w3):=⟨hrow,hbl⟩
  clear ho hg hrow hbl x00 x01 x02 x03 hw0 CT
  go_wp2_with (at_make;refine wpList_make_full _ rfl (.tmp 13) (.tmp 13) 22 rfl w3.heap.size 3 i3 (.int .i64 0) 1 Tryz.underlying22 HI3.out.1 HI3.out.2.1 HI3.out.2.2.1 .i64 .i64 _ _ nn rfl rfl rfl rfl ?d2 ?d3 ?d4 ?mk2)
  case d2 =>
   rw [HI3.out.2.2.2]
   omega
  case d3 =>
   unfold maxLen
   omega
  case d4=>exact Nat.le_refl _
  case mk2 =>
   intro w4 ho hg
   have hrow:=ints_made (by simpa using ho)
   have hbl:Below w3.heap.size w3 w4:=(Below.refl _ _).grown hg (Nat.le_refl _) (fun k h=>by cases h)
   obtain ⟨g4,hg4⟩:∃ g,g=w2.heap.size:=⟨_,rfl⟩
   obtain ⟨g5,hg5⟩:∃ g,g=w3.heap.size:=⟨_,rfl⟩
   rw [← hg5] at hrow
   have HW4:Hid (MRow w4 g4 nn (fun _=>noM)∧ZRow w4 g5 nn (fun _=>0)∧Below w2.heap.size w2 w4∧g4=w2.heap.size∧g4<g5):=⟨by rw [hg4];exact HW3.out.1.kept hbl,hrow,bl_via HW3.out.2 hbl,hg4,by omega⟩
   rw [← hg4,← hg5]
   clear ho hg hrow hbl hg4 hg5 HW3 hlt
   go_wp2
   go_loopg [6] nn (fun gk s6 wx=>∃ i:Nat,i≤nn∧gk=nn - i∧s6=.int .i64 (i:Int)∧MRow wx g4 nn (fun q=>if q<i then idM else noM)∧ZRow wx g5 nn (fun _=>0)∧Below w2.heap.size w2 wx)
   case atStart=>exact ⟨0,by omega,rfl,rfl,by simpa using HW4.out.1,HW4.out.2.1,HW4.out.2.2.1⟩
   case round =>
    obtain ⟨i,hi,rfl,rfl,hm,hz,hbx⟩:=hrel
    have HR:Hid (MRow wr g4 nn (fun q=>if q<i then idM else noM)∧ZRow wr g5 nn (fun _=>0)∧Below w2.heap.size w2 wr):=⟨hm,hz,hbx⟩
    clear hm hz hbx
    by_cases h1:i<nn
    ·have i1:(i:Int)<(nn:Int):=by omega
     have i0:(0:Int)≤(i:Int):=by omega
     obtain ⟨⟨m0,m1,m2,m3,m4,m5⟩,f0,f1,f2,f3,f4,f5⟩:=HR.out.1 i h1
     dsimp only at m0 m1 m2 m3 m4 m5
     rw [if_neg (by omega)] at m0 m1 m2 m3 m4 m5
     have z4:g4<wr.heap.size:=World.block_lt_of_cell? _ _ m0
     have HK:Hid (MRow (set6 wr g4 i idM) g4 nn (fun q=>if q<i+1 then idM else noM)∧ZRow (set6 wr g4 i idM) g5 nn (fun _=>0)∧Below w2.heap.size w2 (set6 wr g4 i idM)):=by
      have h4:=HW4.out.2.2.2
      refine ⟨?_,HR.out.2.1.grown (set6_grown wr g4 i idM) (by simp;omega), ?_⟩
      ·have e:(fun q=>if q<i+1 then idM else noM)=(fun q=>if q=i then idM else if q<i then idM else noM):=by
        funext q
        by_cases e1:q=i
        ·subst e1
         simp
        ·by_cases e2:q<i
         ·rw [if_pos (by omega),if_neg e1,if_pos e2]
         ·rw [if_neg (by omega),if_neg e1,if_neg e2]
       rw [e]
       exact HR.out.1.set6 h1 idM
      ·unfold set6
       with_reducible repeat (refine bl_set ?_ ?_)
       all_goals first | exact HR.out.2.2 | (dsimp only;omega)
     go_wp2
     go_roundg (nn - (i+1))
     case measure=>omega
     case rel=>exact ⟨i+1,by omega,rfl,by go_num,HK.out.1,HK.out.2.1,HK.out.2.2⟩
    ·have i1:¬ (i:Int)<(nn:Int):=by omega
     have v0:=cl_kept HR.out.2.2 y0
     have v1:=cl_kept HR.out.2.2 y1
     have v2:=cl_kept HR.out.2.2 y2
     have v3:=cl_kept HR.out.2.2 y3
     have zr:w.heap.size+1<wr.heap.size:=Nat.lt_of_lt_of_le z2 HR.out.2.2.size
     have HM:Hid (MRow wr g4 nn (fun _=>idM)):=fun q hq=>by
      have:=HR.out.1 q hq
      dsimp only at this
      rw [if_pos (by omega)] at this
      exact this
     clear y0 y1 y2 y3
     go_wp2_with (go_at_call 48;refine (CH.out _ _ _ (fun _=>idM) (bl_via H2.out HR.out.2.2) HM.out HR.out.2.1).mono ?_;rintro e w5 ⟨a5,ca5,b5,cb5,g9,c5,t5,u5,rfl,r1,r2,r3,r4,hb5⟩;have H5:Hid (RowF w5 wr.heap.size a5 zs∧RowF w5 wr.heap.size b5 ks∧(MRow w5 g9 nn (fun _=>idM)∧wr.heap.size≤g9)∧SRowE w5 wr.heap.size t5 (trS L (hpN (mvP L (fun _=>idM)) (hvs ((List.range nn).map fun _=>0)) nn))∧Below w.heap.size w w5∧BoxR w5 (w.heap.size+1)):=⟨r1,r2,r3,r4,bl_via (bl_via H2.out HR.out.2.2) hb5,(HXB.out.kept HR.out.2.2).kept hb5⟩;obtain ⟨⟨b0,b1,b2,b3,b4,b5'⟩,bf⟩:=H5.out.2.2.2.2.2;have k0:=bf 0;have k1:=bf 1;have k2:=bf 2;have k3:=bf 3;have k4:=bf 4;have k5:=bf 5;have zb:w.heap.size+1<w5.heap.size:=World.block_lt_of_cell? _ _ b0;clear r1 r2 r3 r4 hb5 bf)
     refine bodyPost_ret (v:=.agg #[.int .i64 (W:Int),.int .i64 (H:Int),.slice a5 m ca5,.slice b5 n cb5,.slice (some ⟨g9,0,none⟩) nn c5,.slice t5 (trS L (hpN (mvP L (fun _=>idM)) (hvs ((List.range nn).map fun _=>0)) nn)).length u5]) (by simp [results,Tryz.results17,go_sem, *]) rfl ⟨a5,ca5,b5,cb5,g9,c5,t5,u5,rfl, ?_, ?_,⟨?_, ?_⟩, ?_, ?_⟩
     ·refine RowF.low (base:=wr.heap.size) ?_ (by omega)
      with_reducible repeat (refine RowF.set ?_ (by dsimp only;exact zr))
      exact H5.out.1
     ·refine RowF.low (base:=wr.heap.size) ?_ (by omega)
      with_reducible repeat (refine RowF.set ?_ (by dsimp only;exact zr))
      exact H5.out.2.1
     ·have h1:=H5.out.2.2.1.2
      have hne:g9≠w.heap.size+1:=by omega
      with_reducible repeat (refine MRow.setE ?_ hne)
      exact H5.out.2.2.1.1
     ·have h1:=H5.out.2.2.1.2
      omega
     ·refine SRowE.low (base:=wr.heap.size) ?_ (by omega)
      with_reducible repeat (refine SRowE.set ?_ (by dsimp only;exact zr))
      exact H5.out.2.2.2.1
     ·with_reducible repeat (refine bl_set ?_ ?_)
      all_goals first | exact H5.out.2.2.2.2.1 | (dsimp only;omega)
end Go.Proofs.YtgpjaecgkkgehaaGreatDoor
