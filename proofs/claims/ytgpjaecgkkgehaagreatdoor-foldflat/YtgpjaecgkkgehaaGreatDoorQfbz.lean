/- A part of the proof of foldFlat_holds. -/
import Derived.Test.YtgpjaecgkkgehaaGreatDoorQfby
import Derived.Test.YtgpjaecgkkgehaaGreatDoorQfbu
import Derived.Test.YtgpjaecgkkgehaaGreatDoorQfab
namespace Go.Proofs.YtgpjaecgkkgehaaGreatDoor
open Go.RowKit Go.ChangeMaps
set_option maxRecDepth 100000 in
set_option maxHeartbeats 6400000 in
theorem foldFlat_no (W H:Int) (a c:Option Addr) (zl ca n cc:Nat) (zs ks:List Int) (w:World) (CS:Hid (∀ V:World,Below w.heap.size w V→Calls Tryz.prog 8 #[.agg #[.int .i64 W,.int .i64 H,.slice a zl ca,.slice c n cc]] V fun e w'=>∃ a' ca' b' cb',e=.returned (.agg #[.int .i64 W,.int .i64 H,.slice a' zl ca',.slice b' n cb'])∧Row w' a' zs∧Row w' b' ks∧(b'=none∨∃ p o,b'=some ⟨p,o,none⟩)∧Below V.heap.size V w')) (CL:Hid (∀ (V:World) (a' b':Option Addr) (ca' cb':Nat),Below w.heap.size w V→Row V a' zs→Row V b' ks→(b'=none∨∃ p o,b'=some ⟨p,o,none⟩)→Calls Tryz.prog 16 #[.agg #[.int .i64 W,.int .i64 H,.slice a' zl ca',.slice b' n cb']] V fun e w'=>e=.returned (.tuple #[.agg #[.int .i64 0,.int .i64 0,.slice none 0 0,.slice none 0 0,.slice none 0 0,.slice none 0 0],.int .i64 10])∧Below V.heap.size V w')) (CM:Hid (∀ V:World,Below w.heap.size w V→Calls Tryz.prog 10 #[.agg #[.int .i64 W,.int .i64 H,.slice a zl ca,.slice c n cc]] V fun e w'=>e=.returned (.bool false)∧Below V.heap.size V w')) :
  Calls Tryz.prog 4 #[.agg #[.int .i64 W,.int .i64 H,.slice a zl ca,.slice c n cc]] w fun e w'=>e=.returned (.bool true)∧Below w.heap.size w w':=by
 go_enter Tryz.func4,Tryz.ntmps4
 go_upto_region 1 with fail
 refine wp_named (fun W0 hW0=>?_)
 have hw0:Below w.heap.size w W0:=by rw [hW0];exact bl_alloc (bl_refl _)
 have x0:W0.cell? ⟨w.heap.size,0,none⟩=some (.int .i64 W):=by rw [hW0];simp [go_sem]
 have x1:W0.cell? ⟨w.heap.size,1,none⟩=some (.int .i64 H):=by rw [hW0];simp [go_sem]
 have x2:W0.cell? ⟨w.heap.size,2,none⟩=some (.slice a zl ca):=by rw [hW0];simp [go_sem]
 have x3:W0.cell? ⟨w.heap.size,3,none⟩=some (.slice c n cc):=by rw [hW0];simp [go_sem]
 clear hW0
 go_upto_region 2 with (first
  | (go_at_call 8;refine (CS.out _ hw0).mono ?_;rintro e w2 ⟨a',ca',b',cb',rfl,hz2,hk2,hf2,hb2⟩;have HF2:Hid (b'=none∨∃ p o,b'=some ⟨p,o,none⟩):=hf2;have H2:Hid (Row w2 a' zs∧Row w2 b' ks∧Below W0.heap.size W0 w2∧Below w.heap.size w w2):=⟨hz2,hk2,hb2,bl_via hw0 hb2⟩;clear hz2 hk2 hb2 hf2)
  | (go_at_call 16;refine (CL.out _ a' b' ca' cb' H2.out.2.2.2 H2.out.1 H2.out.2.1 HF2.out).mono ?_;rintro e w4 ⟨rfl,hb4⟩;have H4:Hid (Below W0.heap.size W0 w4∧Below w.heap.size w w4∧Below w2.heap.size w2 w4):=⟨bl_via H2.out.2.2.1 hb4,bl_via H2.out.2.2.2 hb4,hb4⟩;clear hb4))
 refine wp_named (fun W5 hW5=>?_)
 obtain ⟨G,hG⟩:∃ G,G=w4.heap.size:=⟨_,rfl⟩
 have s0:W5.cell? ⟨w.heap.size,0,none⟩=some (.int .i64 W):=by
  have h:=cl_kept H4.out.1 x0
  have hlt:w.heap.size<w4.heap.size:=World.block_lt_of_cell? _ _ (cl_kept H4.out.1 x0)
  rw [hW5]
  with_reducible repeat (refine set_far ?_ (by dsimp only;omega))
  exact al_old h
 have s1:W5.cell? ⟨w.heap.size,1,none⟩=some (.int .i64 H):=by
  have h:=cl_kept H4.out.1 x1
  have hlt:w.heap.size<w4.heap.size:=World.block_lt_of_cell? _ _ (cl_kept H4.out.1 x1)
  rw [hW5]
  with_reducible repeat (refine set_far ?_ (by dsimp only;omega))
  exact al_old h
 have s2:W5.cell? ⟨w.heap.size,2,none⟩=some (.slice a zl ca):=by
  have h:=cl_kept H4.out.1 x2
  have hlt:w.heap.size<w4.heap.size:=World.block_lt_of_cell? _ _ (cl_kept H4.out.1 x2)
  rw [hW5]
  with_reducible repeat (refine set_far ?_ (by dsimp only;omega))
  exact al_old h
 have s3:W5.cell? ⟨w.heap.size,3,none⟩=some (.slice c n cc):=by
  have h:=cl_kept H4.out.1 x3
  have hlt:w.heap.size<w4.heap.size:=World.block_lt_of_cell? _ _ (cl_kept H4.out.1 x3)
  rw [hW5]
  with_reducible repeat (refine set_far ?_ (by dsimp only;omega))
  exact al_old h
 have d0:W5.cell? ⟨G,0,none⟩=some (.int .i64 0):=by rw [hW5,hG];simp [go_sem]
 have d1:W5.cell? ⟨G,1,none⟩=some (.int .i64 0):=by rw [hW5,hG];simp [go_sem]
 have d2:W5.cell? ⟨G,2,none⟩=some (.slice none 0 0):=by rw [hW5,hG];simp [go_sem]
 have d3:W5.cell? ⟨G,3,none⟩=some (.slice none 0 0):=by rw [hW5,hG];simp [go_sem]
 have d4:W5.cell? ⟨G,4,none⟩=some (.slice none 0 0):=by rw [hW5,hG];simp [go_sem]
 have d5:W5.cell? ⟨G,5,none⟩=some (.slice none 0 0):=by rw [hW5,hG];simp [go_sem]
 have hw5:Below w.heap.size w W5:=by
  have:=H4.out.2.1.size
  rw [hW5]
  with_reducible repeat (refine bl_set ?_ ?_)
  all_goals first | exact bl_alloc H4.out.2.1 | (dsimp only;omega)
 have HB5:Hid (Below w4.heap.size w4 W5∧Below w.heap.size w W5):=⟨by
  rw [hW5]
  with_reducible repeat (refine bl_set ?_ ?_)
  all_goals first | exact bl_alloc (bl_refl _) | (dsimp only;omega),hw5⟩
 have zS:w.heap.size<W5.heap.size:=World.block_lt_of_cell? _ _ s0
 have zG:G<W5.heap.size:=World.block_lt_of_cell? _ _ d0
 rw [← hG]
 clear hW5 hG hw5 x0 x1 x2 x3 hw0 CS CL
 go_wp2_with (first | (go_at_call 10;refine (CM.out _ HB5.out.2).mono ?_;rintro e w6 ⟨rfl,hb6⟩;have HB6:Hid (Below w.heap.size w w6∧Below w4.heap.size w4 w6):=⟨bl_via HB5.out.2 hb6,bl_via HB5.out.1 hb6⟩;replace s0:=cl_kept hb6 s0;replace s1:=cl_kept hb6 s1;replace s2:=cl_kept hb6 s2;replace s3:=cl_kept hb6 s3;replace d0:=cl_kept hb6 d0;replace d1:=cl_kept hb6 d1;replace d2:=cl_kept hb6 d2;replace d3:=cl_kept hb6 d3;replace d4:=cl_kept hb6 d4;replace d5:=cl_kept hb6 d5;replace zS:=World.block_lt_of_cell? _ _ s0;replace zG:=World.block_lt_of_cell? _ _ d0;clear hb6) | (go_at_call 11;refine (none_yes _).mono ?_;rintro e w9 ⟨rfl,hb9⟩;have HB9:Hid (Below w.heap.size w w9):=bl_via HB6.out.1 hb9;clear hb9))
 go_ret
 exact ⟨rfl,HB9.out⟩
set_option maxRecDepth 100000 in
set_option maxHeartbeats 6400000 in
theorem foldFlat_kind (W H:Int) (a c:Option Addr) (zl ca n cc:Nat) (zs ks:List Int) (w:World) (hn:0<n) (CS:Hid (∀ V:World,Below w.heap.size w V→Calls Tryz.prog 8 #[.agg #[.int .i64 W,.int .i64 H,.slice a zl ca,.slice c n cc]] V fun e w'=>∃ a' ca' b' cb',e=.returned (.agg #[.int .i64 W,.int .i64 H,.slice a' zl ca',.slice b' n cb'])∧Row w' a' zs∧Row w' b' ks∧(b'=none∨∃ p o,b'=some ⟨p,o,none⟩)∧Below V.heap.size V w')) (CL:Hid (∀ (V:World) (a' b':Option Addr) (ca' cb':Nat),Below w.heap.size w V→Row V a' zs→Row V b' ks→(b'=none∨∃ p o,b'=some ⟨p,o,none⟩)→Calls Tryz.prog 16 #[.agg #[.int .i64 W,.int .i64 H,.slice a' zl ca',.slice b' n cb']] V fun e w'=>e=.returned (.tuple #[.agg #[.int .i64 0,.int .i64 0,.slice none 0 0,.slice none 0 0,.slice none 0 0,.slice none 0 0],.int .i64 4])∧Below V.heap.size V w')) (CM:Hid (∀ V:World,Below w.heap.size w V→Calls Tryz.prog 10 #[.agg #[.int .i64 W,.int .i64 H,.slice a zl ca,.slice c n cc]] V fun e w'=>e=.returned (.bool true)∧Below V.heap.size V w')) :
  Calls Tryz.prog 4 #[.agg #[.int .i64 W,.int .i64 H,.slice a zl ca,.slice c n cc]] w fun e w'=>e=.returned (.bool true)∧Below w.heap.size w w':=by
 have n1:(0:Int)<(n:Int):=by omega
 go_enter Tryz.func4,Tryz.ntmps4
 go_upto_region 1 with fail
 refine wp_named (fun W0 hW0=>?_)
 have hw0:Below w.heap.size w W0:=by rw [hW0];exact bl_alloc (bl_refl _)
 have x0:W0.cell? ⟨w.heap.size,0,none⟩=some (.int .i64 W):=by rw [hW0];simp [go_sem]
 have x1:W0.cell? ⟨w.heap.size,1,none⟩=some (.int .i64 H):=by rw [hW0];simp [go_sem]
 have x2:W0.cell? ⟨w.heap.size,2,none⟩=some (.slice a zl ca):=by rw [hW0];simp [go_sem]
 have x3:W0.cell? ⟨w.heap.size,3,none⟩=some (.slice c n cc):=by rw [hW0];simp [go_sem]
 clear hW0
 go_upto_region 2 with (first
  | (go_at_call 8;refine (CS.out _ hw0).mono ?_;rintro e w2 ⟨a',ca',b',cb',rfl,hz2,hk2,hf2,hb2⟩;have HF2:Hid (b'=none∨∃ p o,b'=some ⟨p,o,none⟩):=hf2;have H2:Hid (Row w2 a' zs∧Row w2 b' ks∧Below W0.heap.size W0 w2∧Below w.heap.size w w2):=⟨hz2,hk2,hb2,bl_via hw0 hb2⟩;clear hz2 hk2 hb2 hf2)
  | (go_at_call 16;refine (CL.out _ a' b' ca' cb' H2.out.2.2.2 H2.out.1 H2.out.2.1 HF2.out).mono ?_;rintro e w4 ⟨rfl,hb4⟩;have H4:Hid (Below W0.heap.size W0 w4∧Below w.heap.size w w4∧Below w2.heap.size w2 w4):=⟨bl_via H2.out.2.2.1 hb4,bl_via H2.out.2.2.2 hb4,hb4⟩;clear hb4))
 refine wp_named (fun W5 hW5=>?_)
 obtain ⟨G,hG⟩:∃ G,G=w4.heap.size:=⟨_,rfl⟩
 have s0:W5.cell? ⟨w.heap.size,0,none⟩=some (.int .i64 W):=by
  have h:=cl_kept H4.out.1 x0
  have hlt:w.heap.size<w4.heap.size:=World.block_lt_of_cell? _ _ (cl_kept H4.out.1 x0)
  rw [hW5]
  with_reducible repeat (refine set_far ?_ (by dsimp only;omega))
  exact al_old h
 have s1:W5.cell? ⟨w.heap.size,1,none⟩=some (.int .i64 H):=by
  have h:=cl_kept H4.out.1 x1
  have hlt:w.heap.size<w4.heap.size:=World.block_lt_of_cell? _ _ (cl_kept H4.out.1 x1)
  rw [hW5]
  with_reducible repeat (refine set_far ?_ (by dsimp only;omega))
  exact al_old h
 have s2:W5.cell? ⟨w.heap.size,2,none⟩=some (.slice a zl ca):=by
  have h:=cl_kept H4.out.1 x2
  have hlt:w.heap.size<w4.heap.size:=World.block_lt_of_cell? _ _ (cl_kept H4.out.1 x2)
  rw [hW5]
  with_reducible repeat (refine set_far ?_ (by dsimp only;omega))
  exact al_old h
 have s3:W5.cell? ⟨w.heap.size,3,none⟩=some (.slice c n cc):=by
  have h:=cl_kept H4.out.1 x3
  have hlt:w.heap.size<w4.heap.size:=World.block_lt_of_cell? _ _ (cl_kept H4.out.1 x3)
  rw [hW5]
  with_reducible repeat (refine set_far ?_ (by dsimp only;omega))
  exact al_old h
 have d0:W5.cell? ⟨G,0,none⟩=some (.int .i64 0):=by rw [hW5,hG];simp [go_sem]
 have d1:W5.cell? ⟨G,1,none⟩=some (.int .i64 0):=by rw [hW5,hG];simp [go_sem]
 have d2:W5.cell? ⟨G,2,none⟩=some (.slice none 0 0):=by rw [hW5,hG];simp [go_sem]
 have d3:W5.cell? ⟨G,3,none⟩=some (.slice none 0 0):=by rw [hW5,hG];simp [go_sem]
 have d4:W5.cell? ⟨G,4,none⟩=some (.slice none 0 0):=by rw [hW5,hG];simp [go_sem]
 have d5:W5.cell? ⟨G,5,none⟩=some (.slice none 0 0):=by rw [hW5,hG];simp [go_sem]
 have hw5:Below w.heap.size w W5:=by
  have:=H4.out.2.1.size
  rw [hW5]
  with_reducible repeat (refine bl_set ?_ ?_)
  all_goals first | exact bl_alloc H4.out.2.1 | (dsimp only;omega)
 have HB5:Hid (Below w4.heap.size w4 W5∧Below w.heap.size w W5):=⟨by
  rw [hW5]
  with_reducible repeat (refine bl_set ?_ ?_)
  all_goals first | exact bl_alloc (bl_refl _) | (dsimp only;omega),hw5⟩
 have zS:w.heap.size<W5.heap.size:=World.block_lt_of_cell? _ _ s0
 have zG:G<W5.heap.size:=World.block_lt_of_cell? _ _ d0
 rw [← hG]
 clear hW5 hG hw5 x0 x1 x2 x3 hw0 CS CL
 go_wp2_with (first | (go_at_call 10;refine (CM.out _ HB5.out.2).mono ?_;rintro e w6 ⟨rfl,hb6⟩;have HB6:Hid (Below w.heap.size w w6∧Below w4.heap.size w4 w6):=⟨bl_via HB5.out.2 hb6,bl_via HB5.out.1 hb6⟩;replace s0:=cl_kept hb6 s0;replace s1:=cl_kept hb6 s1;replace s2:=cl_kept hb6 s2;replace s3:=cl_kept hb6 s3;replace d0:=cl_kept hb6 d0;replace d1:=cl_kept hb6 d1;replace d2:=cl_kept hb6 d2;replace d3:=cl_kept hb6 d3;replace d4:=cl_kept hb6 d4;replace d5:=cl_kept hb6 d5;replace zS:=World.block_lt_of_cell? _ _ s0;replace zG:=World.block_lt_of_cell? _ _ d0;clear hb6) | (go_at_call 11;refine (none_yes _).mono ?_;rintro e w9 ⟨rfl,hb9⟩;have HB9:Hid (Below w.heap.size w w9):=bl_via HB6.out.1 hb9;clear hb9))
 go_ret
 exact ⟨rfl,HB9.out⟩
set_option maxRecDepth 100000 in
set_option maxHeartbeats 6400000 in
theorem foldFlat_ok (W H:Int) (a c:Option Addr) (zl ca cc nn sl:Nat) (zs ks:List Int) (M:Nat→M6) (S:List ((Int×Int×Int)×List (Int×Int×Int))) (w:World) (CS:Hid (∀ V:World,Below w.heap.size w V→Calls Tryz.prog 8 #[.agg #[.int .i64 W,.int .i64 H,.slice a zl ca,.slice c 0 cc]] V fun e w'=>∃ a' ca' b' cb',e=.returned (.agg #[.int .i64 W,.int .i64 H,.slice a' zl ca',.slice b' 0 cb'])∧Row w' a' zs∧Row w' b' ks∧(b'=none∨∃ p o,b'=some ⟨p,o,none⟩)∧Below V.heap.size V w')) (CL:Hid (∀ (V:World) (a' b':Option Addr) (ca' cb':Nat),Below w.heap.size w V→Row V a' zs→Row V b' ks→(b'=none∨∃ p o,b'=some ⟨p,o,none⟩)→Calls Tryz.prog 16 #[.agg #[.int .i64 W,.int .i64 H,.slice a' zl ca',.slice b' 0 cb']] V fun e w'=>∃ a9 ca9 b9 cb9 g9 c9 t9 u9,e=.returned (.tuple #[.agg #[.int .i64 W,.int .i64 H,.slice a9 zl ca9,.slice b9 0 cb9,.slice (some ⟨g9,0,none⟩) nn c9,.slice t9 sl u9],.int .i64 0])∧Row w' a9 zs∧Row w' b9 ks∧MRow w' g9 nn M∧SRow w' t9 S∧Below V.heap.size V w')) (CM:Hid (∀ V:World,Below w.heap.size w V→Calls Tryz.prog 10 #[.agg #[.int .i64 W,.int .i64 H,.slice a zl ca,.slice c 0 cc]] V fun e w'=>e=.returned (.bool true)∧Below V.heap.size V w')) (CY:Hid (∀ V:World,Below w.heap.size w V→Calls Tryz.prog 17 #[.agg #[.int .i64 W,.int .i64 H,.slice a zl ca,.slice c 0 cc]] V fun e w'=>∃ a9 ca9 b9 cb9 g9 c9 t9 u9,e=.returned (.agg #[.int .i64 W,.int .i64 H,.slice a9 zl ca9,.slice b9 0 cb9,.slice (some ⟨g9,0,none⟩) nn c9,.slice t9 sl u9])∧Row w' a9 zs∧Row w' b9 ks∧MRow w' g9 nn M∧SRow w' t9 S∧Below V.heap.size V w')) (CE:Hid (∀ (V:World) (a1 b1 a2 b2 t1 t2:Option Addr) (ca1 cb1 g1 c1 u1 ca2 cb2 g2 c2 u2:Nat),Row V a1 zs∧Row V b1 ks∧MRow V g1 nn M∧SRow V t1 S→Row V a2 zs∧Row V b2 ks∧MRow V g2 nn M∧SRow V t2 S→Calls Tryz.prog 14 #[.agg #[.int .i64 W,.int .i64 H,.slice a1 zl ca1,.slice b1 0 cb1,.slice (some ⟨g1,0,none⟩) nn c1,.slice t1 sl u1],.agg #[.int .i64 W,.int .i64 H,.slice a2 zl ca2,.slice b2 0 cb2,.slice (some ⟨g2,0,none⟩) nn c2,.slice t2 sl u2]] V fun e w'=>e=.returned (.bool true)∧Below V.heap.size V w')) :
  Calls Tryz.prog 4 #[.agg #[.int .i64 W,.int .i64 H,.slice a zl ca,.slice c 0 cc]] w fun e w'=>e=.returned (.bool true)∧Below w.heap.size w w':=by
 go_enter Tryz.func4,Tryz.ntmps4
 go_upto_region 1 with fail
 refine wp_named (fun W0 hW0=>?_)
 have hw0:Below w.heap.size w W0:=by rw [hW0];exact bl_alloc (bl_refl _)
 have x0:W0.cell? ⟨w.heap.size,0,none⟩=some (.int .i64 W):=by rw [hW0];simp [go_sem]
 have x1:W0.cell? ⟨w.heap.size,1,none⟩=some (.int .i64 H):=by rw [hW0];simp [go_sem]
 have x2:W0.cell? ⟨w.heap.size,2,none⟩=some (.slice a zl ca):=by rw [hW0];simp [go_sem]
 have x3:W0.cell? ⟨w.heap.size,3,none⟩=some (.slice c 0 cc):=by rw [hW0];simp [go_sem]
 clear hW0
 go_upto_region 2 with (first
  | (go_at_call 8;refine (CS.out _ hw0).mono ?_;rintro e w2 ⟨a',ca',b',cb',rfl,hz2,hk2,hf2,hb2⟩;have HF2:Hid (b'=none∨∃ p o,b'=some ⟨p,o,none⟩):=hf2;have H2:Hid (Row w2 a' zs∧Row w2 b' ks∧Below W0.heap.size W0 w2∧Below w.heap.size w w2):=⟨hz2,hk2,hb2,bl_via hw0 hb2⟩;clear hz2 hk2 hb2 hf2)
  | (go_at_call 16;refine (CL.out _ a' b' ca' cb' H2.out.2.2.2 H2.out.1 H2.out.2.1 HF2.out).mono ?_;rintro e w4 ⟨a9,ca9,b9,cb9,g9,c9,t9,u9,rfl,r1,r2,r3,r4,hb4⟩;have HS4:Hid (Row w4 a9 zs∧Row w4 b9 ks∧MRow w4 g9 nn M∧SRow w4 t9 S):=⟨r1,r2,r3,r4⟩;clear r1 r2 r3 r4;have H4:Hid (Below W0.heap.size W0 w4∧Below w.heap.size w w4∧Below w2.heap.size w2 w4):=⟨bl_via H2.out.2.2.1 hb4,bl_via H2.out.2.2.2 hb4,hb4⟩;clear hb4))
 refine wp_named (fun W5 hW5=>?_)
 obtain ⟨G,hG⟩:∃ G,G=w4.heap.size:=⟨_,rfl⟩
 have s0:W5.cell? ⟨w.heap.size,0,none⟩=some (.int .i64 W):=by
  have h:=cl_kept H4.out.1 x0
  have hlt:w.heap.size<w4.heap.size:=World.block_lt_of_cell? _ _ (cl_kept H4.out.1 x0)
  rw [hW5]
  with_reducible repeat (refine set_far ?_ (by dsimp only;omega))
  exact al_old h
 have s1:W5.cell? ⟨w.heap.size,1,none⟩=some (.int .i64 H):=by
  have h:=cl_kept H4.out.1 x1
  have hlt:w.heap.size<w4.heap.size:=World.block_lt_of_cell? _ _ (cl_kept H4.out.1 x1)
  rw [hW5]
  with_reducible repeat (refine set_far ?_ (by dsimp only;omega))
  exact al_old h
 have s2:W5.cell? ⟨w.heap.size,2,none⟩=some (.slice a zl ca):=by
  have h:=cl_kept H4.out.1 x2
  have hlt:w.heap.size<w4.heap.size:=World.block_lt_of_cell? _ _ (cl_kept H4.out.1 x2)
  rw [hW5]
  with_reducible repeat (refine set_far ?_ (by dsimp only;omega))
  exact al_old h
 have s3:W5.cell? ⟨w.heap.size,3,none⟩=some (.slice c 0 cc):=by
  have h:=cl_kept H4.out.1 x3
  have hlt:w.heap.size<w4.heap.size:=World.block_lt_of_cell? _ _ (cl_kept H4.out.1 x3)
  rw [hW5]
  with_reducible repeat (refine set_far ?_ (by dsimp only;omega))
  exact al_old h
 have d0:W5.cell? ⟨G,0,none⟩=some (.int .i64 W):=by rw [hW5,hG];simp [go_sem]
 have d1:W5.cell? ⟨G,1,none⟩=some (.int .i64 H):=by rw [hW5,hG];simp [go_sem]
 have d2:W5.cell? ⟨G,2,none⟩=some (.slice a9 zl ca9):=by rw [hW5,hG];simp [go_sem]
 have d3:W5.cell? ⟨G,3,none⟩=some (.slice b9 0 cb9):=by rw [hW5,hG];simp [go_sem]
 have d4:W5.cell? ⟨G,4,none⟩=some (.slice (some ⟨g9,0,none⟩) nn c9):=by rw [hW5,hG];simp [go_sem]
 have d5:W5.cell? ⟨G,5,none⟩=some (.slice t9 sl u9):=by rw [hW5,hG];simp [go_sem]
 have hw5:Below w.heap.size w W5:=by
  have:=H4.out.2.1.size
  rw [hW5]
  with_reducible repeat (refine bl_set ?_ ?_)
  all_goals first | exact bl_alloc H4.out.2.1 | (dsimp only;omega)
 have HB5:Hid (Below w4.heap.size w4 W5∧Below w.heap.size w W5):=⟨by
  rw [hW5]
  with_reducible repeat (refine bl_set ?_ ?_)
  all_goals first | exact bl_alloc (bl_refl _) | (dsimp only;omega),hw5⟩
 have zS:w.heap.size<W5.heap.size:=World.block_lt_of_cell? _ _ s0
 have zG:G<W5.heap.size:=World.block_lt_of_cell? _ _ d0
 rw [← hG]
 clear hW5 hG hw5 x0 x1 x2 x3 hw0 CS CL
 go_upto_region 6 with ((go_at_call 10;refine (CM.out _ HB5.out.2).mono ?_;rintro e w6 ⟨rfl,hb6⟩;have HB6:Hid (Below w.heap.size w w6∧Below w4.heap.size w4 w6):=⟨bl_via HB5.out.2 hb6,bl_via HB5.out.1 hb6⟩;replace s0:=cl_kept hb6 s0;replace s1:=cl_kept hb6 s1;replace s2:=cl_kept hb6 s2;replace s3:=cl_kept hb6 s3;replace d0:=cl_kept hb6 d0;replace d1:=cl_kept hb6 d1;replace d2:=cl_kept hb6 d2;replace d3:=cl_kept hb6 d3;replace d4:=cl_kept hb6 d4;replace d5:=cl_kept hb6 d5;replace zS:=World.block_lt_of_cell? _ _ s0;replace zG:=World.block_lt_of_cell? _ _ d0;clear hb6))
 go_region_held3 (fun w'=>w'.cell? ⟨w.heap.size,0,none⟩=some (.int .i64 W)∧w'.cell? ⟨w.heap.size,1,none⟩=some (.int .i64 H)∧w'.cell? ⟨w.heap.size,2,none⟩=some (.slice a zl ca)∧w'.cell? ⟨w.heap.size,3,none⟩=some (.slice c 0 cc)∧w'.cell? ⟨G,0,none⟩=some (.int .i64 W)∧w'.cell? ⟨G,1,none⟩=some (.int .i64 H)∧w'.cell? ⟨G,2,none⟩=some (.slice a9 zl ca9)∧w'.cell? ⟨G,3,none⟩=some (.slice b9 0 cb9)∧w'.cell? ⟨G,4,none⟩=some (.slice (some ⟨g9,0,none⟩) nn c9)∧w'.cell? ⟨G,5,none⟩=some (.slice t9 sl u9))
  ((refine ⟨?_, ?_, ?_, ?_, ?_, ?_, ?_, ?_, ?_, ?_⟩ <;> (with_reducible repeat (first | assumption | refine dr_old ?_ | refine cl_kept hb10 ?_ | refine cl_kept hb11 ?_))))
  (first
   | (go_at_call 17;refine (CY.out _ (bl_via HB6.out.1 (by with_reducible repeat (first | exact bl_refl _ | refine bl_drew ?_)))).mono ?_;rintro e w10 ⟨a10,ca10,b10,cb10,g10,c10,t10,u10,rfl,r1,r2,r3,r4,hb10⟩;have HA:Hid (Row w10 a10 zs∧Row w10 b10 ks∧MRow w10 g10 nn M∧SRow w10 t10 S):=⟨r1,r2,r3,r4⟩;have HQ10:Hid (Below w6.heap.size w6 w10):=bl_via (by with_reducible repeat (first | exact bl_refl _ | refine bl_drew ?_)) hb10;have HB10:Hid (Below w4.heap.size w4 w10∧Below w.heap.size w w10):=⟨bl_via HB6.out.2 HQ10.out,bl_via HB6.out.1 HQ10.out⟩;clear r1 r2 r3 r4)
   | (go_at_call 14;refine (CE.out _ a9 b9 a10 b10 t9 t10 ca9 cb9 g9 c9 u9 ca10 cb10 g10 c10 u10 ⟨HS4.out.1.kept (bl_via HB10.out.1 (by with_reducible repeat (first | exact bl_refl _ | refine bl_drew ?_))),HS4.out.2.1.kept (bl_via HB10.out.1 (by with_reducible repeat (first | exact bl_refl _ | refine bl_drew ?_))),HS4.out.2.2.1.kept (bl_via HB10.out.1 (by with_reducible repeat (first | exact bl_refl _ | refine bl_drew ?_))),HS4.out.2.2.2.kept (bl_via HB10.out.1 (by with_reducible repeat (first | exact bl_refl _ | refine bl_drew ?_)))⟩ ⟨HA.out.1.kept (by with_reducible repeat (first | exact bl_refl _ | refine bl_drew ?_)),HA.out.2.1.kept (by with_reducible repeat (first | exact bl_refl _ | refine bl_drew ?_)),HA.out.2.2.1.kept (by with_reducible repeat (first | exact bl_refl _ | refine bl_drew ?_)),HA.out.2.2.2.kept (by with_reducible repeat (first | exact bl_refl _ | refine bl_drew ?_))⟩).mono ?_;rintro e w11 ⟨rfl,hb11⟩;have HB11:Hid (Below w.heap.size w w11):=bl_via (bl_via HB10.out.2 (by with_reducible repeat (first | exact bl_refl _ | refine bl_drew ?_))) hb11))
 all_goals
  go_wp2
  go_ret
  exact ⟨rfl,by with_reducible repeat (first | exact HB11.out | refine bl_drew ?_)⟩
open Go.RowKit Go.ChangeMaps
theorem mrow_eq {w:World} {g n:Nat} {M M':Nat→M6} (h:MRow w g n M) (e:∀ i,i<n→M i=M' i):MRow w g n M':=fun i hi=>by
 rw [← e i hi]
 exact h i hi
theorem hpN_same {pl:Nat→Int×Int×Int} {h h':Nat→Int} {n:Nat} (hd:∀ i j,i<n→j<n→pl i=pl j→i≠j→h i≠h j) (e:∀ j,j<n→h j=h' j):hpN pl h n=hpN pl h' n :=
 (heap_congr (heap_hpN n hd) (fun _ _=>rfl) e).one (heap_hpN n (fun i j hi hj e1 e2 e3=>hd i j hi hj e1 e2 (by rw [e i hi,e j hj];exact e3)))
theorem plcA_mvP {L:List (Int×Int×Int)} {M:Nat→M6} {n j:Nat} (hj:j<n):plcA (pls L M n) j=mvP L M j:=by
 unfold plcA pls mvP tg
 rw [List.getD_eq_getElem?_getD (l:=List.map _ _)]
 simp [hj]
theorem hgt_at {hs:List Int} {part:Nat→Int} {n j:Nat} (hj:j<n):hgt hs (lbs part n) j=hs.getD (part j).toNat 0:=by
 unfold hgt
 rw [lbs_at hj]
def hOf (hs:List Int) (part:Nat→Int) (j:Nat):Int:=hs.getD (part j).toNat 0
def stS (L:List (Int×Int×Int)) (M:Nat→M6) (h:Nat→Int):List ((Int×Int×Int)×List (Int×Int×Int)):=trS L (hpN (mvP L M) h L.length)
theorem stS_len (L:List (Int×Int×Int)) (M:Nat→M6) (h:Nat→Int):(stS L M h).length≤L.length:=by
 unfold stS trS
 rw [List.length_map]
 exact hpN_len _ _ _
theorem stS_lens (L:List (Int×Int×Int)) (M:Nat→M6) (h:Nat→Int):∀ s∈stS L M h,s.2.length≤L.length:=fun s hs=>by
 unfold stS trS at hs
 obtain ⟨x,hx,rfl⟩:=List.mem_map.1 hs
 dsimp only
 rw [List.length_map]
 exact hpN_lens _ _ _ x hx
theorem laid_state {w w':World} {W H:Int} {n:Nat} {zs ks hs:List Int} {L:List (Int×Int×Int)} {M M0:Nat→M6} {part p0:Nat→Int} {v:Value} (hM:∀ i,i<L.length→M i=M0 i) (hp:∀ i,i<L.length→part i=p0 i) (hd:∀ i j,i<L.length→j<L.length→mvP L M0 i=mvP L M0 j→i≠j→hOf hs p0 i≠hOf hs p0 j)
  (h:StateTo w w' W H n L.length zs ks M L (plcA (pls L M L.length)) (hgt hs (lbs part L.length)) (.returned v)):HeapF w w' W H zs.length n L.length zs ks M0 (stS L M0 (hOf hs p0)) (.returned v):=by
 obtain ⟨a,ca,b,cb,g,c,t,u,Hp,he,r1,r2,r3,r4,hH,hS,hb⟩:=h
 have h1:Heap L.length (mvP L M0) (hOf hs p0) Hp:=heap_congr hH (fun j hj=>by
  rw [plcA_mvP hj]
  unfold mvP
  rw [hM j hj]) (fun j hj=>by
  rw [hgt_at hj,hp j hj]
  rfl)
 have h2:=h1.one (heap_hpN L.length hd)
 subst h2
 have e:(hpN (mvP L M0) (hOf hs p0) L.length).map (fun s=>(s.1,tgn L s.2))=stS L M0 (hOf hs p0):=rfl
 have e2:(hpN (mvP L M0) (hOf hs p0) L.length).length=(stS L M0 (hOf hs p0)).length:=by
  unfold stS trS
  rw [List.length_map]
 rw [e] at hS
 rw [e2] at he
 exact ⟨a,ca,b,cb,g,c,t,u,he,r1,r2,⟨mrow_eq r3 hM,r4⟩,hS,hb⟩
end Go.Proofs.YtgpjaecgkkgehaaGreatDoor
