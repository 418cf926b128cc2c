/- A part of the proof of foldFlat_holds. -/
import Derived.Test.YtgpjaecgkkgehaaGreatDoorQfbc
import Derived.Test.YtgpjaecgkkgehaaGreatDoorQfbh
import Derived.Test.YtgpjaecgkkgehaaGreatDoorQfbi
namespace Go.Proofs.YtgpjaecgkkgehaaGreatDoor
open Go.RowKit
def pls (L:List (Int×Int×Int)) (M:Nat→M6) (n:Nat):List (Int×Int×Int):=(List.range n).map fun i=>mvt (M i) (L.getD i (0,0,0))
theorem pls_len (L:List (Int×Int×Int)) (M:Nat→M6) (n:Nat):(pls L M n).length=n:=by simp [pls]
theorem pls_succ (L:List (Int×Int×Int)) (M:Nat→M6) (n:Nat):pls L M (n+1)=pls L M n ++ [mvt (M n) (L.getD n (0,0,0))]:=by
 unfold pls
 rw [List.range_succ,List.map_append]
 rfl
structure SpB (w0 wx:World) (B:Nat) (ad:Option Addr) (n cc ra rk gm cm:Nat) (v:Value) (l:List (Int×Int×Int)):Prop where
 c0:wx.cell? ⟨B,0,none⟩=some (.slice ad n cc)
 c1:wx.cell? ⟨B,1,none⟩=some (.map (some ra))
 c2:wx.cell? ⟨B,2,none⟩=some (.map (some rk))
 c3:wx.cell? ⟨B,3,none⟩=some (.slice (some ⟨gm,0,none⟩) n cm)
 c4:wx.cell? ⟨B,4,none⟩=some v
 f4:wx.frozen? ⟨B,4,none⟩=false
 own:wx.ownsRow (B+1) 56 3 v l.length (flatV l)
 low:w0.heap.size≤B
 bel:Below w0.heap.size w0 wx
theorem SpB.lt {w0 wx:World} {B:Nat} {ad:Option Addr} {n cc ra rk gm cm:Nat} {v:Value} {l:List (Int×Int×Int)} (h:SpB w0 wx B ad n cc ra rk gm cm v l):B<wx.heap.size:=World.block_lt_of_cell? _ _ h.c0
theorem SpB.kept {w0 wx w':World} {B:Nat} {ad:Option Addr} {n cc ra rk gm cm:Nat} {v:Value} {l:List (Int×Int×Int)} (h:SpB w0 wx B ad n cc ra rk gm cm v l) (hb:Below wx.heap.size wx w'):SpB w0 w' B ad n cc ra rk gm cm v l :=
 ⟨cl_kept hb h.c0,cl_kept hb h.c1,cl_kept hb h.c2,cl_kept hb h.c3,cl_kept hb h.c4,(hb.frozen h.lt).trans h.f4,own_below h.own hb,h.low,bl_via h.bel hb⟩
theorem SpB.more {w0 wx w2:World} {B:Nat} {ad:Option Addr} {n cc ra rk gm cm:Nat} {v v':Value} {l:List (Int×Int×Int)} {t:Int×Int×Int} (h:SpB w0 wx B ad n cc ra rk gm cm v l) (hg:wx.grownBy w2 v.ownBlock) (ho:w2.ownsRow (B+1) 56 3 v' (l.length+1) (flatV l ++ [.int .i64 t.1,.int .i64 t.2.1,.int .i64 t.2.2])):SpB w0 (w2.setCell ⟨B,4,none⟩ v') B ad n cc ra rk gm cm v' (l ++ [t]):=by
 have hn:some B≠v.ownBlock:=fun e=>by
  have:=own_base h.own B e.symm
  omega
 have hn':v'.ownBlock≠some B:=fun e=>by
  have:=own_base ho B e
  omega
 have g1:=h.bel.grown hg h.bel.size (fun k hk=>by have:=own_base h.own k hk;have:=h.low;omega)
 have hlt2:B<w2.heap.size:=Nat.lt_of_lt_of_le h.lt hg.size
 have c4:=hg.cell h.c4 hn
 have f4:w2.frozen? ⟨B,4,none⟩=false:=(World.frozen?_of_block (a:=⟨B,4,none⟩) (hg.block B h.lt hn)).trans h.f4
 refine ⟨st_else (hg.cell h.c0 hn) (by omega),st_else (hg.cell h.c1 hn) (by omega),st_else (hg.cell h.c2 hn) (by omega),st_else (hg.cell h.c3 hn) (by omega),st_same c4, ?_, ?_,h.low, ?_⟩
 ·simp [go_sem,f4]
 ·rw [flatV_add,List.length_append,List.length_singleton]
  exact ho.kept (grown_cell w2 B 4 v') (Or.inr hn')
 ·exact g1.setCell (p:=⟨B,4,none⟩) h.low _
theorem TRow.far {w:World} {pa:Option Addr} {l:List (Int×Int×Int)} {p:Addr} {u:Value} (h:TRow w pa l) (hn:∀ g,pa=some ⟨g,0,none⟩→g≠p.block):TRow (w.setCell p u) pa l:=fun i hi=>by
 obtain ⟨g,e,c0,c1,c2⟩:=h i hi
 exact ⟨g,e,st_far c0 (hn g e),st_far c1 (hn g e),st_far c2 (hn g e)⟩
theorem TRow.dr {w:World} {pa:Option Addr} {l:List (Int×Int×Int)} (h:TRow w pa l):TRow w.drew pa l:=fun i hi=>by
 obtain ⟨g,e,c0,c1,c2⟩:=h i hi
 exact ⟨g,e,dr_old c0,dr_old c1,dr_old c2⟩
theorem fresh3_d {v w8:World} {g:Nat} (hg:v.heap.size=g) (hb:Below ((v.alloc (.cells #[.int .i64 0,.int .i64 0,.int .i64 0] 56)).drew).heap.size ((v.alloc (.cells #[.int .i64 0,.int .i64 0,.int .i64 0] 56)).drew) w8):(w8.cell? ⟨g,0,none⟩=some (.int .i64 0)∧w8.cell? ⟨g,1,none⟩=some (.int .i64 0)∧w8.cell? ⟨g,2,none⟩=some (.int .i64 0))∧(w8.frozen? ⟨g,0,none⟩=false∧w8.frozen? ⟨g,1,none⟩=false∧w8.frozen? ⟨g,2,none⟩=false)∧g<w8.heap.size:=by
 subst hg
 have c0:w8.cell? ⟨v.heap.size,0,none⟩=some (.int .i64 0):=cl_kept hb (by simp [go_sem])
 refine ⟨⟨c0,cl_kept hb (by simp [go_sem]),cl_kept hb (by simp [go_sem])⟩,⟨?_, ?_, ?_⟩,World.block_lt_of_cell? _ _ c0⟩
 all_goals exact (hb.frozen (by simp)).trans (by simp [go_sem])
set_option maxRecDepth 100000 in
set_option maxHeartbeats 6400000 in
theorem spread_pile (w:World) (cc ra rk gm cm:Nat) (ad:Option Addr) (L:List (Int×Int×Int)) (kd:Int×Int×Int×Int→Int) (M:Nat→M6) (hs:Steps w) (hPA:PA w ad ra L) (hK:KL w rk kd) (hL:L.length≤300) (hbd:∀ t∈L,(0≤t.1∧t.1≤8)∧(0≤t.2.1∧t.2.1≤8)∧(0≤t.2.2∧t.2.2≤3)) (hM:MRow w gm L.length M) (hC:Cons kd L M) (hG:∀ i,i<L.length→GoodM (M i) 48000) :
  Calls Tryz.prog 66 #[.agg #[.slice ad L.length cc,.map (some ra),.map (some rk)],.slice (some ⟨gm,0,none⟩) L.length cm] w fun e w'=>∃ pa pc,e=.returned (.tuple #[.agg #[.slice ad L.length cc,.map (some ra),.map (some rk),.slice (some ⟨gm,0,none⟩) L.length cm,.slice pa L.length pc],.bool true])∧TRow w' pa (pls L M L.length)∧Below w.heap.size w w':=by
 have CF:Hid (∀ (W':World) (pa:Option Addr) (pn pc:Nat),Below w.heap.size w W'→Calls Tryz.prog 103 #[.agg #[.slice ad L.length cc,.map (some ra),.map (some rk),.slice (some ⟨gm,0,none⟩) L.length cm,.slice pa pn pc]] W' fun e w'=>e=.returned (.bool true)∧Below W'.heap.size W' w'):=fun W' pa pn pc hW'=>fits_any W' cc ra rk gm cm ad pa pn pc L kd M (hs.kept hW') (hPA.kept hW') (hK.kept hW') hL hbd (hM.kept hW') hC hG
 have CM:Hid (∀ (W':World) (i:Nat) (hi:i<L.length),Below w.heap.size w W'→Calls Tryz.prog 102 #[.agg #[.int .i64 (M i).1,.int .i64 (M i).2.1,.int .i64 (M i).2.2.1,.int .i64 (M i).2.2.2.1,.int .i64 (M i).2.2.2.2.1,.int .i64 (M i).2.2.2.2.2],.agg #[.int .i64 L[i].1,.int .i64 L[i].2.1,.int .i64 L[i].2.2]] W' fun r w'=>r=.returned (.tuple #[.agg #[.int .i64 (mvt (M i) L[i]).1,.int .i64 (mvt (M i) L[i]).2.1,.int .i64 (mvt (M i) L[i]).2.2],.int .i64 0])∧Below W'.heap.size W' w'):=fun W' i hi hW'=>Move_small (M i) L[i] W' (hG i hi) (hbd _ (List.getElem_mem hi)) (hs.kept hW')
 have HR:Hid (TRow w ad L∧MRow w gm L.length M):=⟨hPA.1,hM⟩
 obtain ⟨i3,hi3,hz30,hz31,hz32⟩:=info_parts inf23
 have HI:Hid (Tryz.prog.info? 56=some i3∧i3.zero=some (.agg #[.int .i64 0,.int .i64 0,.int .i64 0])∧i3.size=3∧i3.bytes=24):=⟨hi3,hz30,hz31,hz32⟩
 have qn:((L.length:Int) != (L.length:Int))=false:=by simp
 clear hs hPA hK hbd hM hC hG hi3 hz30 hz31 hz32
 go_enter Tryz.func66,Tryz.ntmps66
 go_wp2
 go_loopg [24] L.length (fun gk s24 wx=>∃ (i:Nat) (v:Value),i≤L.length∧gk=L.length - i∧s24=.int .i64 (i:Int)∧SpB ((w.alloc (.cells #[.slice ad L.length cc,.map (some ra),.map (some rk)] 68)).alloc (.cells #[.slice none 0 0,.map none,.map none,.slice none 0 0,.slice none 0 0] 70)) wx (w.heap.size+1+1) ad L.length cc ra rk gm cm v (pls L M i))
 case atStart=>exact ⟨0,.slice none 0 0,by omega,rfl,rfl,⟨by simp [go_sem],by simp [go_sem],by simp [go_sem],by simp [go_sem],by simp [go_sem],by simp [go_sem],⟨by simp [pls,flatV],.inl ⟨rfl,by simp [pls]⟩⟩,by simp,bl_alloc (bl_refl _)⟩⟩
 case round =>
  obtain ⟨i,v,hi,rfl,rfl,hS⟩:=hrel
  have HS:Hid (SpB ((w.alloc (.cells #[.slice ad L.length cc,.map (some ra),.map (some rk)] 68)).alloc (.cells #[.slice none 0 0,.map none,.map none,.slice none 0 0,.slice none 0 0] 70)) wr (w.heap.size+1+1) ad L.length cc ra rk gm cm v (pls L M i)):=hS
  have HB:Hid (Below w.heap.size w wr):=bl_via (bl_alloc (bl_alloc (bl_refl _))) hS.bel
  have zB:=hS.lt
  clear hS
  by_cases h1:i<L.length
  ·have i1:(i:Int)<(L.length:Int):=by omega
   have i0:(0:Int)≤(i:Int):=by omega
   obtain ⟨gt_,rfl,t0,t1,t2⟩:=HR.out.1 i h1
   replace t0:=cl_kept HB.out t0
   replace t1:=cl_kept HB.out t1
   replace t2:=cl_kept HB.out t2
   have zt:gt_<wr.heap.size:=World.block_lt_of_cell? _ _ t0
   obtain ⟨⟨y0,y1,y2,y3,y4,y5⟩,_⟩:=HR.out.2 i h1
   have CMi:=CM.out
   obtain ⟨A,B,C,D,E,F,hmi⟩:∃ A B C D E F,M i=(A,B,C,D,E,F):=⟨_,_,_,_,_,_,rfl⟩
   obtain ⟨x,y,k,hti⟩:∃ x y k,L[i]=(x,y,k):=⟨_,_,_,rfl⟩
   obtain ⟨X,Y,K,hmv⟩:∃ X Y K,mvt (M i) L[i]=(X,Y,K):=⟨_,_,_,rfl⟩
   have CMr:Hid (∀ W':World,Below wr.heap.size wr W'→Calls Tryz.prog 102 #[.agg #[.int .i64 A,.int .i64 B,.int .i64 C,.int .i64 D,.int .i64 E,.int .i64 F],.agg #[.int .i64 x,.int .i64 y,.int .i64 k]] W' fun r w'=>r=.returned (.tuple #[.agg #[.int .i64 X,.int .i64 Y,.int .i64 K],.int .i64 0])∧Below W'.heap.size W' w'):=fun W' hW'=>by
    have h:=CM.out W' i h1 (bl_via HB.out hW')
    rw [hmv,hmi,hti] at h
    exact h
   rw [hmi] at y0 y1 y2 y3 y4 y5
   rw [hti] at t0 t1 t2
   dsimp only at y0 y1 y2 y3 y4 y5 t0 t1 t2
   have HP:Hid (pls L M (i+1)=pls L M i ++ [(X,Y,K)]):=by
    have:pls L M (i+1)=pls L M i ++ [(X,Y,K)]:=by
     rw [pls_succ,← hmv,List.getD_eq_getElem?_getD,List.getElem?_eq_getElem h1]
     rfl
    exact this
   clear CMi hmi hti hmv
   go_wp2
   refine wp_named (fun W0 hW0=>?_)
   have HBN:Hid (Below wr.heap.size wr W0):=by
    have:Below wr.heap.size wr W0:=by rw [hW0];exact bl_alloc (bl_refl _)
    exact this
   obtain ⟨B9,hB9⟩:∃ b,b=wr.heap.size:=⟨_,rfl⟩
   have x0:W0.cell? ⟨B9,0,none⟩=some (.int .i64 x):=by rw [hW0,hB9];simp [go_sem]
   have x1:W0.cell? ⟨B9,1,none⟩=some (.int .i64 y):=by rw [hW0,hB9];simp [go_sem]
   have x2:W0.cell? ⟨B9,2,none⟩=some (.int .i64 k):=by rw [hW0,hB9];simp [go_sem]
   clear hW0
   rw [← hB9]
   clear hB9
   have bw2:=bl_via HB.out HBN.out
   replace y0:=cl_kept bw2 y0
   replace y1:=cl_kept bw2 y1
   replace y2:=cl_kept bw2 y2
   replace y3:=cl_kept bw2 y3
   replace y4:=cl_kept bw2 y4
   replace y5:=cl_kept bw2 y5
   have zW1:gm<W0.heap.size:=World.block_lt_of_cell? _ _ y0
   have zWB:B9<W0.heap.size:=World.block_lt_of_cell? _ _ x0
   have CM0:Hid (∀ W':World,Below W0.heap.size W0 W'→Calls Tryz.prog 102 #[.agg #[.int .i64 A,.int .i64 B,.int .i64 C,.int .i64 D,.int .i64 E,.int .i64 F],.agg #[.int .i64 x,.int .i64 y,.int .i64 k]] W' fun r w'=>r=.returned (.tuple #[.agg #[.int .i64 X,.int .i64 Y,.int .i64 K],.int .i64 0])∧Below W'.heap.size W' w'):=fun W' hW'=>CMr.out W' (bl_via HBN.out hW')
   clear bw2 t0 t1 t2 zt
   go_cut [9,10] (fun s9 s10 wx=>∃ g9:Nat,s9=.pointer (some ⟨g9,0,none⟩)∧s10=.int .i64 0∧(wx.cell? ⟨g9,0,none⟩=some (.int .i64 X)∧wx.cell? ⟨g9,1,none⟩=some (.int .i64 Y)∧wx.cell? ⟨g9,2,none⟩=some (.int .i64 K))∧Below W0.heap.size W0 wx)
   case first =>
    go_region_held3 (fun w'=>w'.cell? ⟨gm,i*6,none⟩=some (.int .i64 A)∧w'.cell? ⟨gm,i*6+1,none⟩=some (.int .i64 B)∧w'.cell? ⟨gm,i*6+2,none⟩=some (.int .i64 C)∧w'.cell? ⟨gm,i*6+3,none⟩=some (.int .i64 D)∧w'.cell? ⟨gm,i*6+4,none⟩=some (.int .i64 E)∧w'.cell? ⟨gm,i*6+5,none⟩=some (.int .i64 F)∧w'.cell? ⟨B9,0,none⟩=some (.int .i64 x)∧w'.cell? ⟨B9,1,none⟩=some (.int .i64 y)∧w'.cell? ⟨B9,2,none⟩=some (.int .i64 k))
     ((refine ⟨?_, ?_, ?_, ?_, ?_, ?_, ?_, ?_, ?_⟩ <;> (repeat' (first | (with_reducible assumption) | (with_reducible refine st_far ?_ ?_) | (dsimp only;omega) | (simp [go_sem];done) | (with_reducible refine al_old ?_) | (with_reducible refine dr_old ?_)))))
     ((go_at_call 102;refine (CM0.out _ (by with_reducible repeat (first | exact bl_refl _ | refine bl_drew ?_ | refine bl_alloc ?_))).mono ?_;rintro e w8 ⟨rfl,hb⟩;have y0_8:w8.cell? ⟨gm,i*6,none⟩=some (.int .i64 A):=cl_kept hb (by with_reducible (repeat (first | assumption | refine dr_old ?_ | refine al_old ?_)));have y1_8:w8.cell? ⟨gm,i*6+1,none⟩=some (.int .i64 B):=cl_kept hb (by with_reducible (repeat (first | assumption | refine dr_old ?_ | refine al_old ?_)));have y2_8:w8.cell? ⟨gm,i*6+2,none⟩=some (.int .i64 C):=cl_kept hb (by with_reducible (repeat (first | assumption | refine dr_old ?_ | refine al_old ?_)));have y3_8:w8.cell? ⟨gm,i*6+3,none⟩=some (.int .i64 D):=cl_kept hb (by with_reducible (repeat (first | assumption | refine dr_old ?_ | refine al_old ?_)));have y4_8:w8.cell? ⟨gm,i*6+4,none⟩=some (.int .i64 E):=cl_kept hb (by with_reducible (repeat (first | assumption | refine dr_old ?_ | refine al_old ?_)));have y5_8:w8.cell? ⟨gm,i*6+5,none⟩=some (.int .i64 F):=cl_kept hb (by with_reducible (repeat (first | assumption | refine dr_old ?_ | refine al_old ?_)));have x0_8:w8.cell? ⟨B9,0,none⟩=some (.int .i64 x):=cl_kept hb (by with_reducible (repeat (first | assumption | refine dr_old ?_ | refine al_old ?_)));have x1_8:w8.cell? ⟨B9,1,none⟩=some (.int .i64 y):=cl_kept hb (by with_reducible (repeat (first | assumption | refine dr_old ?_ | refine al_old ?_)));have x2_8:w8.cell? ⟨B9,2,none⟩=some (.int .i64 k):=cl_kept hb (by with_reducible (repeat (first | assumption | refine dr_old ?_ | refine al_old ?_)));(first | (have hfz:=fresh3_a (g:=W0.heap.size) rfl hb;obtain ⟨⟨fy0,fy1,fy2⟩,⟨fz0,fz1,fz2⟩,fzz⟩:=hfz) | (have hfz:=fresh3_d (g:=W0.heap.size) rfl hb;obtain ⟨⟨fy0,fy1,fy2⟩,⟨fz0,fz1,fz2⟩,fzz⟩:=hfz) | (have hfz:=fresh3_dd (g:=W0.heap.size) rfl hb;obtain ⟨⟨fy0,fy1,fy2⟩,⟨fz0,fz1,fz2⟩,fzz⟩:=hfz) | skip);have hq:Below W0.heap.size W0 w8:=(by with_reducible (first | exact hb | exact bl_undrew hb | exact bl_undrew (bl_undrew hb) | exact bl_via (bl_alloc (bl_refl _)) hb | exact bl_via (bl_drew (bl_alloc (bl_refl _))) hb | exact bl_via (bl_alloc (bl_drew (bl_refl _))) hb | exact bl_via (bl_drew (bl_alloc (bl_drew (bl_refl _)))) hb | exact bl_via (bl_drew (bl_drew (bl_alloc (bl_refl _)))) hb | exact bl_via (bl_alloc (bl_drew (bl_drew (bl_refl _)))) hb));have HQ8:Hid (Below W0.heap.size W0 w8):=hq;have zs1:gm<w8.heap.size:=World.block_lt_of_cell? _ _ y0_8;have zs2:B9<w8.heap.size:=World.block_lt_of_cell? _ _ x0_8;have zs3:=hq.size;clear hb hq))
    all_goals
     go_wp2
     go_meet
     case rel =>
      refine ⟨_,rfl,rfl, ?_, ?_⟩
      ·first | (simp [go_sem];done) | (simp [go_sem, *];done)
      ·with_reducible repeat' (first | exact HQ8.out | refine bl_set ?_ ?_ | refine bl_alloc ?_ | refine bl_drew ?_)
       all_goals (first | omega | (dsimp only;omega) | (simp;done))
   case rest =>
    obtain ⟨g9,rfl,rfl,⟨e0,e1,e2⟩,hBc⟩:=hcut
    have HSc:Hid (SpB _ wc (w.heap.size+1+1) _ _ _ _ _ _ _ v (pls L M i)):=HS.out.kept (bl_via HBN.out hBc)
    have z9:g9<wc.heap.size:=World.block_lt_of_cell? _ _ e0
    have c4:=HSc.out.c4
    have zBc:=HSc.out.lt
    clear HS HB HBN CMr CM0 hBc y0 y1 y2 y3 y4 y5 x0 x1 x2 zW1 zWB zB
    have hb1:w.heap.size+1+1+1≤wc.heap.size:=by omega
    have HPL:Hid ((pls L M i).length=i):=pls_len L M i
    have HO:Hid (wc.ownsRow (w.heap.size+1+1+1) 56 3 v i (flatV (pls L M i))):=by
     have:=HSc.out.own
     rw [HPL.out] at this
     exact this
    go_wp2_with (at_builtin;refine wpList_append_own _ rfl (.tmp 42) (.tmp 44) 57 rfl (w.heap.size+1+1+1) 56 i3 (.agg #[.int .i64 0,.int .i64 0,.int .i64 0]) 3 24 Tryz.underlying57 HI.out.1 HI.out.2.1 HI.out.2.2.1 HI.out.2.2.2 rfl (by decide) v i (flatV (pls L M i)) rfl (own_below HO.out (bl_alloc (bl_refl _))) ⟨wc.heap.size,0,none⟩ 1 1 [.int .i64 X,.int .i64 Y,.int .i64 K] rfl rfl (cell_three_new wc X Y K) (three_cell X Y K) (by unfold maxLen;omega) (by omega) (by simp;omega) ?grow)
    case grow =>
     intro v' w3 hown hgrow _
     obtain ⟨gv,cv,rfl⟩:∃ gv cv,v'=.slice (some ⟨gv,0,none⟩) (i+1) cv:=by
      rcases hown.2 with ⟨_,h0⟩ | ⟨gv,cv,_,h,_⟩
      ·omega
      ·exact ⟨gv,cv,h⟩
     have hk:=HSc.out.kept (bl_alloc (o:=.cells #[.int .i64 X,.int .i64 Y,.int .i64 K] 56) (bl_refl wc))
     have hN:=hk.more (t:=(X,Y,K)) hgrow (by rw [HPL.out];exact hown)
     rw [← HP.out] at hN
     have HN:=(show Hid _ from hN)
     have hnB:some (w.heap.size+1+1)≠v.ownBlock:=fun e=>by
      have:=own_base hk.own _ e.symm
      omega
     have d4:=hgrow.cell hk.c4 hnB
     have k4:w3.frozen? ⟨w.heap.size+1+1,4,none⟩=false:=(World.frozen?_of_block (a:=⟨w.heap.size+1+1,4,none⟩) (hgrow.block _ hk.lt hnB)).trans hk.f4
     have z3:w.heap.size+1+1<w3.heap.size:=World.block_lt_of_cell? _ _ d4
     clear hown hgrow hk hN hnB
     go_wp2
     go_roundg (L.length - (i+1))
     case measure=>omega
     case rel=>exact ⟨i+1,_,by omega,rfl,by go_num,HN.out⟩
  ·have i1:¬ (i:Int)<(L.length:Int):=by omega
   obtain rfl:i=L.length:=by omega
   obtain ⟨pa,pc,rfl,hT⟩:=own_tris HS.out.own
   rw [pls_len] at HS
   have c0:=HS.out.c0
   have c1:=HS.out.c1
   have c2:=HS.out.c2
   have c3:=HS.out.c3
   have c4:=HS.out.c4
   have HT:Hid (TRow wr pa (pls L M L.length)):=hT
   have HPA:Hid (∀ g,pa=some ⟨g,0,none⟩→w.heap.size+1+1+1≤g):=fun g e=>own_base HS.out.own g (by rw [e];rfl)
   clear hT
   have d0:wr.cell? ⟨w.heap.size+1,0,none⟩=some (.slice none 0 0):=cl_kept HS.out.bel (by simp [go_sem])
   have d1:wr.cell? ⟨w.heap.size+1,1,none⟩=some (.map none):=cl_kept HS.out.bel (by simp [go_sem])
   have d2:wr.cell? ⟨w.heap.size+1,2,none⟩=some (.map none):=cl_kept HS.out.bel (by simp [go_sem])
   have d3:wr.cell? ⟨w.heap.size+1,3,none⟩=some (.slice none 0 0):=cl_kept HS.out.bel (by simp [go_sem])
   have d4:wr.cell? ⟨w.heap.size+1,4,none⟩=some (.slice none 0 0):=cl_kept HS.out.bel (by simp [go_sem])
   have zD:w.heap.size+1<wr.heap.size:=World.block_lt_of_cell? _ _ d0
   have k0:wr.frozen? ⟨w.heap.size+1,0,none⟩=false:=(HS.out.bel.frozen (by simp)).trans (by simp [go_sem])
   have k1:wr.frozen? ⟨w.heap.size+1,1,none⟩=false:=(HS.out.bel.frozen (by simp)).trans (by simp [go_sem])
   have k2:wr.frozen? ⟨w.heap.size+1,2,none⟩=false:=(HS.out.bel.frozen (by simp)).trans (by simp [go_sem])
   have k3:wr.frozen? ⟨w.heap.size+1,3,none⟩=false:=(HS.out.bel.frozen (by simp)).trans (by simp [go_sem])
   have k4:wr.frozen? ⟨w.heap.size+1,4,none⟩=false:=(HS.out.bel.frozen (by simp)).trans (by simp [go_sem])
   have CF0:Hid (∀ W':World,Below wr.heap.size wr W'→Calls Tryz.prog 103 #[.agg #[.slice ad L.length cc,.map (some ra),.map (some rk),.slice (some ⟨gm,0,none⟩) L.length cm,.slice pa L.length pc]] W' fun e w'=>e=.returned (.bool true)∧Below W'.heap.size W' w'):=fun W' hW'=>CF.out W' pa L.length pc (bl_via HB.out hW')
   have HB1:Hid (Below w.heap.size w wr):=HB.out
   clear CF CM HR HI HS HB
   go_wp2
   go_region_held3 (fun w'=>w'.cell? ⟨w.heap.size+1+1,0,none⟩=some (.slice ad L.length cc)∧w'.cell? ⟨w.heap.size+1+1,1,none⟩=some (.map (some ra))∧w'.cell? ⟨w.heap.size+1+1,2,none⟩=some (.map (some rk))∧w'.cell? ⟨w.heap.size+1+1,3,none⟩=some (.slice (some ⟨gm,0,none⟩) L.length cm)∧w'.cell? ⟨w.heap.size+1+1,4,none⟩=some (.slice pa L.length pc))
    ((refine ⟨?_, ?_, ?_, ?_, ?_⟩ <;> (repeat' (first | (with_reducible assumption) | (with_reducible refine st_far ?_ ?_) | (dsimp only;omega) | (simp [go_sem];done) | (with_reducible refine al_old ?_) | (with_reducible refine dr_old ?_)))))
    ((go_at_call 103;refine (CF0.out _ (by with_reducible repeat (first | exact bl_refl _ | refine bl_drew ?_ | refine bl_alloc ?_))).mono ?_;rintro e w8 ⟨rfl,hb⟩;have c0_8:w8.cell? ⟨w.heap.size+1+1,0,none⟩=some (.slice ad L.length cc):=cl_kept hb (by with_reducible (repeat (first | assumption | refine dr_old ?_ | refine al_old ?_)));have c1_8:w8.cell? ⟨w.heap.size+1+1,1,none⟩=some (.map (some ra)):=cl_kept hb (by with_reducible (repeat (first | assumption | refine dr_old ?_ | refine al_old ?_)));have c2_8:w8.cell? ⟨w.heap.size+1+1,2,none⟩=some (.map (some rk)):=cl_kept hb (by with_reducible (repeat (first | assumption | refine dr_old ?_ | refine al_old ?_)));have c3_8:w8.cell? ⟨w.heap.size+1+1,3,none⟩=some (.slice (some ⟨gm,0,none⟩) L.length cm):=cl_kept hb (by with_reducible (repeat (first | assumption | refine dr_old ?_ | refine al_old ?_)));have c4_8:w8.cell? ⟨w.heap.size+1+1,4,none⟩=some (.slice pa L.length pc):=cl_kept hb (by with_reducible (repeat (first | assumption | refine dr_old ?_ | refine al_old ?_)));have d0_8:w8.cell? ⟨w.heap.size+1,0,none⟩=some (.slice none 0 0):=cl_kept hb (by with_reducible (repeat (first | assumption | refine dr_old ?_ | refine al_old ?_)));have k0_8:w8.frozen? ⟨w.heap.size+1,0,none⟩=false:=(hb.frozen (by dsimp only;first | exact zD | (simp;exact zD))).trans (by first | exact k0 | (simp [go_sem,k0];done));have d1_8:w8.cell? ⟨w.heap.size+1,1,none⟩=some (.map none):=cl_kept hb (by with_reducible (repeat (first | assumption | refine dr_old ?_ | refine al_old ?_)));have k1_8:w8.frozen? ⟨w.heap.size+1,1,none⟩=false:=(hb.frozen (by dsimp only;first | exact zD | (simp;exact zD))).trans (by first | exact k1 | (simp [go_sem,k1];done));have d2_8:w8.cell? ⟨w.heap.size+1,2,none⟩=some (.map none):=cl_kept hb (by with_reducible (repeat (first | assumption | refine dr_old ?_ | refine al_old ?_)));have k2_8:w8.frozen? ⟨w.heap.size+1,2,none⟩=false:=(hb.frozen (by dsimp only;first | exact zD | (simp;exact zD))).trans (by first | exact k2 | (simp [go_sem,k2];done));have d3_8:w8.cell? ⟨w.heap.size+1,3,none⟩=some (.slice none 0 0):=cl_kept hb (by with_reducible (repeat (first | assumption | refine dr_old ?_ | refine al_old ?_)));have k3_8:w8.frozen? ⟨w.heap.size+1,3,none⟩=false:=(hb.frozen (by dsimp only;first | exact zD | (simp;exact zD))).trans (by first | exact k3 | (simp [go_sem,k3];done));have d4_8:w8.cell? ⟨w.heap.size+1,4,none⟩=some (.slice none 0 0):=cl_kept hb (by with_reducible (repeat (first | assumption | refine dr_old ?_ | refine al_old ?_)));have k4_8:w8.frozen? ⟨w.heap.size+1,4,none⟩=false:=(hb.frozen (by dsimp only;first | exact zD | (simp;exact zD))).trans (by first | exact k4 | (simp [go_sem,k4];done));have hq:Below wr.heap.size wr w8:=(by with_reducible (first | exact hb | exact bl_undrew hb | exact bl_undrew (bl_undrew hb)));have HQ8:Hid (Below wr.heap.size wr w8):=hq;have zs1:w.heap.size+1<w8.heap.size:=World.block_lt_of_cell? _ _ d0_8;have zs2:w.heap.size+1+1<w8.heap.size:=World.block_lt_of_cell? _ _ c0_8;clear hb hq))
   all_goals
    go_wp2
    refine bodyPost_ret (v:=.tuple #[.agg #[.slice ad L.length cc,.map (some ra),.map (some rk),.slice (some ⟨gm,0,none⟩) L.length cm,.slice pa L.length pc],.bool true]) (by simp [results,Tryz.results66,go_sem, *]) rfl ⟨pa,pc,rfl, ?_, ?_⟩
    ·have hT8:=HT.out.kept HQ8.out
     with_reducible repeat' (first | exact hT8 | refine TRow.far ?_ ?_ | refine TRow.dr ?_)
     all_goals (intro g e;have:=HPA.out g e;dsimp only;omega)
    ·with_reducible repeat' (first | exact bl_via HB1.out HQ8.out | refine bl_set ?_ ?_ | refine bl_drew ?_)
     all_goals (dsimp only;omega)
end Go.Proofs.YtgpjaecgkkgehaaGreatDoor
namespace Go.Proofs.YtgpjaecgkkgehaaGreatDoor
open Go.RowKit Go.Shelf Go.ChangeMaps
def Gn (pl:List (Int×Int×Int)):Nat→Int×Int×Int→List Int
 | 0,_=>[]
 | i+1,e=>if e=pl.getD i (0,0,0) then Gn pl i (pl.getD i (0,0,0)) ++ [(i:Int)] else Gn pl i e
theorem Gn_len (pl:List (Int×Int×Int)):∀ i e,(Gn pl i e).length≤i
 | 0,e=>by simp [Gn]
 | i+1,e=>by
  unfold Gn
  split
  ·rw [List.length_append,List.length_singleton]
   have:=Gn_len pl i (pl.getD i (0,0,0))
   omega
  ·have:=Gn_len pl i e
   omega
theorem Gn_mem (pl:List (Int×Int×Int)) (e:Int×Int×Int):∀ i (k:Nat),(k:Int)∈Gn pl i e↔k<i∧pl.getD k (0,0,0)=e
 | 0,k=>by simp [Gn]
 | i+1,k=>by
  unfold Gn
  by_cases q:e=pl.getD i (0,0,0)
  ·rw [if_pos q,← q,List.mem_append,Gn_mem pl e i k]
   constructor
   ·rintro (h | h)
    ·exact ⟨by omega,h.2⟩
    ·simp at h
     have:k=i:=by omega
     subst this
     exact ⟨by omega,q.symm⟩
   ·rintro ⟨h1,h2⟩
    by_cases q2:k<i
    ·exact Or.inl ⟨q2,h2⟩
    ·have:k=i:=by omega
     subst this
     exact Or.inr (by simp)
  ·rw [if_neg q,Gn_mem pl e i k]
   constructor
   ·rintro ⟨h1,h2⟩
    exact ⟨by omega,h2⟩
   ·rintro ⟨h1,h2⟩
    refine ⟨?_,h2⟩
    by_cases q2:k<i
    ·exact q2
    ·have:k=i:=by omega
     subst this
     exact absurd h2.symm q
theorem Gn_nat (pl:List (Int×Int×Int)):∀ i e,∀ x∈Gn pl i e,∃ k:Nat,x=(k:Int)
 | 0,e,x,h=>by simp [Gn] at h
 | i+1,e,x,h=>by
  unfold Gn at h
  split at h
  ·rcases List.mem_append.1 h with h | h
   ·exact Gn_nat pl i _ x h
   ·simp at h
    exact ⟨i,h⟩
  ·exact Gn_nat pl i e x h
theorem sub_lenT {α:Type} [DecidableEq α]:∀ (l m:List α),l.Nodup→(∀ x∈l,x∈m)→l.length≤m.length
 | [],_,_,_=>by simp
 | x :: r,b,h,hs=>by
  rw [List.nodup_cons] at h
  have hx:=hs x (by simp)
  have h1:=sub_lenT r (b.erase x) h.2 (fun y hy=>by
   have hne:y≠x:=fun e=>h.1 (e ▸ hy)
   exact (List.mem_erase_of_ne hne).2 (hs y (by simp [hy])))
  rw [List.length_erase_of_mem hx] at h1
  have:=List.length_pos_of_mem hx
  rw [List.length_cons]
  omega
structure PLW (w wx:World) (rm n pc:Nat) (pa:Option Addr) (pl:List (Int×Int×Int)) (i:Nat):Prop where
 m:TGP wx (w.heap.size+2) rm (.slice none 0 0) (Gn pl i)
 p:wx.cell? ⟨w.heap.size,4,none⟩=some (.slice pa n pc)
 b:Below w.heap.size w wx
def blkOf:Value→Nat
 | .slice (some a) _ _=>a.block
 | _=>0
def capOf:Value→Nat
 | .slice _ _ c=>c
 | _=>0
structure PiledTo (w w':World) (pl:List (Int×Int×Int)) (g m c:Nat) (S:List ((Int×Int×Int)×Nat×Nat)):Prop where
 len:S.length=m
 ord:S.Pairwise (fun x y=>ltT x.1 y.1)
 row:∀ i (hi:i<S.length),w'.cell? ⟨g,i,none⟩=some (.slice (some ⟨S[i].2.1,0,none⟩) (Gn pl pl.length S[i].1).length S[i].2.2)
 own:∀ s∈S,w'.ownsRow w.heap.size 3 1 (.slice (some ⟨s.2.1,0,none⟩) (Gn pl pl.length s.1).length s.2.2) (Gn pl pl.length s.1).length ((Gn pl pl.length s.1).map (Value.int .i64))
 ne:∀ s∈S,Gn pl pl.length s.1≠[]
 all:∀ k,k<pl.length→∃ s∈S,s.1=pl.getD k (0,0,0)
 far:S.Pairwise (fun x y=>x.2.1≠y.2.1)
 off:∀ s∈S,s.2.1≠g
 b:Below w.heap.size w w'
theorem Tlk_of {ls:List ((Int×Int×Int)×Value×Nat)} {c:Nat} (hG:TGood ls c) {x:((Int×Int×Int)×Value×Nat)} (hx:x∈ls):Tlk ls x.1=some x.2.1:=by
 have h1:=hG.1
 clear hG
 induction ls with
 | nil=>cases hx
 | cons y r ih =>
  rw [List.map_cons,List.nodup_cons] at h1
  unfold Tlk
  rcases List.mem_cons.1 hx with rfl | hx
  ·rw [if_pos rfl]
  ·have:y.1≠x.1:=fun e=>h1.1 (e ▸ List.mem_map.2 ⟨x,hx,rfl⟩)
   rw [if_neg this]
   exact ih hx h1.2
theorem Tlk_some {ls:List ((Int×Int×Int)×Value×Nat)} {k:Int×Int×Int} {v:Value} (h:Tlk ls k=some v):∃ x∈ls,x.1=k∧x.2.1=v:=by
 induction ls with
 | nil=>cases h
 | cons y r ih =>
  unfold Tlk at h
  by_cases q:y.1=k
  ·rw [if_pos q] at h
   simp at h
   exact ⟨y,by simp,q,h⟩
  ·rw [if_neg q] at h
   obtain ⟨x,hx,e⟩:=ih h
   exact ⟨x,by simp [hx],e⟩
set_option maxRecDepth 100000 in
set_option maxHeartbeats 3200000 in
theorem piled_any (w:World) (ad ma pa:Option Addr) (na ca nm cm pc:Nat) (ra rk:Option Nat) (pl:List (Int×Int×Int)) (hT:TRow w pa pl) (h0:0<pl.length) (hn:pl.length≤300) :
  Calls Tryz.prog 109 #[.agg #[.slice ad na ca,.map ra,.map rk,.slice ma nm cm,.slice pa pl.length pc]] w fun e w'=>∃ g m c S,e=.returned (.slice (some ⟨g,0,none⟩) m c)∧PiledTo w w' pl g m c S:=by
 obtain ⟨gp,rfl⟩:∃ gp,pa=some ⟨gp,0,none⟩:=by
  obtain ⟨g,e,_⟩:=hT 0 h0
  exact ⟨g,e⟩
 have HT:Hid (TRow w (some ⟨gp,0,none⟩) pl):=hT
 obtain ⟨i3,hi3,hz30,hz31,hz32⟩:=info_parts inf3
 have HI:Hid (Tryz.prog.info? 3=some i3∧i3.zero=some (.int .i64 0)∧i3.size=1∧i3.bytes=8):=⟨hi3,hz30,hz31,hz32⟩
 obtain ⟨n,hnl⟩:∃ n,n=pl.length:=⟨_,rfl⟩
 have HNL:Hid (n=pl.length):=hnl
 have hn3:n≤300:=by omega
 have h0n:0<n:=by omega
 rw [← hnl]
 clear hT hi3 hz30 hz31 hz32 hnl h0 hn
 have hmm:=@run_makeMap Tryz.prog
 go_enter Tryz.func109,Tryz.ntmps109
 go_wp2
 obtain ⟨W1,hW1⟩:∃ W1,W1=(w.alloc (.cells #[.slice ad na ca,.map ra,.map rk,.slice ma nm cm,.slice (some ⟨gp,0,none⟩) n pc] 70)).alloc (.map #[] 0):=⟨_,rfl⟩
 have HP1:Hid (PLW w W1 (w.heap.size+1) n pc (some ⟨gp,0,none⟩) pl 0):=by
  have:PLW w W1 (w.heap.size+1) n pc (some ⟨gp,0,none⟩) pl 0:=by
   rw [hW1]
   refine ⟨⟨[],0, ?_,⟨by simp,by simp,by simp⟩,fun e _=>rfl,fun e v h=>by simp [Tlk] at h,fun e e' v v' _ h=>by simp [Tlk] at h⟩,by simp [go_sem],bl_alloc (bl_alloc (bl_refl _))⟩
   have h9:=heap_alloc_new (w.alloc (.cells #[.slice ad na ca,.map ra,.map rk,.slice ma nm cm,.slice (some ⟨gp,0,none⟩) n pc] 70)) (.map #[] 0)
   rw [World.size_alloc] at h9
   exact h9
  exact this
 rw [← hW1]
 clear hW1 hmm
 go_loopg [10] n (fun gk s10 wx=>∃ i:Nat,i≤n∧gk=n - i∧s10=.int .i64 (i:Int)∧PLW w wx (w.heap.size+1) n pc (some ⟨gp,0,none⟩) pl i)
 case atStart=>exact ⟨0,by omega,rfl,rfl,HP1.out⟩
 case round =>
  clear HP1
  obtain ⟨i,hi,rfl,rfl,hP⟩:=hrel
  have HP:Hid (PLW w wr (w.heap.size+1) n pc (some ⟨gp,0,none⟩) pl i):=hP
  clear hP
  by_cases h1:i<n
  ·have i1:(i:Int)<(n:Int):=by omega
   have i0:(0:Int)≤(i:Int):=by omega
   have hil:i<pl.length:=by rw [← HNL.out];exact h1
   obtain ⟨g',eg,q0,q1,q2⟩:=(HT.out.kept HP.out.b) i hil
   cases eg
   obtain ⟨t,ht⟩:∃ t,t=pl[i]:=⟨_,rfl⟩
   obtain ⟨x,y,z⟩:=t
   rw [← ht] at q0 q1 q2
   dsimp only at q0 q1 q2
   have hgt:pl.getD i (0,0,0)=(x,y,z):=by rw [List.getD_eq_getElem?_getD,List.getElem?_eq_getElem hil,ht];rfl
   have zg:gp<wr.heap.size:=World.block_lt_of_cell? _ _ q0
   obtain ⟨v0,st,W2,hrun,hg2,hz2,hown,hback⟩:=(HP.out.m.kept (w':=(wr.alloc (.cells #[.int .i64 x,.int .i64 y,.int .i64 z] 56)).alloc (.cells #[.int .i64 (i:Int)] 3)) (bl_alloc (bl_alloc (bl_refl _)))).entry (by omega) (fun g h=>by simp [Value.ownBlock] at h) (x,y,z) (i:Int)
   have hrun':(Instr.mapEntry 200 (.map (some (w.heap.size+1))) (.agg #[.int .i64 x,.int .i64 y,.int .i64 z])).run Tryz.prog ((wr.alloc (.cells #[.int .i64 x,.int .i64 y,.int .i64 z] 56)).alloc (.cells #[.int .i64 (i:Int)] 3))=.ok (.tuple #[v0,.int .i64 st]) W2:=hrun
   have hW2:W2.heap.size=wr.heap.size+2:=by rw [hz2];simp
   have hm1:w.heap.size+1<wr.heap.size:=by
    obtain ⟨ls,c,h,_⟩:=HP.out.m
    exact h.lt
   have hnw:W2.cell? ⟨wr.heap.size+1,0,none⟩=some (.int .i64 (i:Int)):=hg2.cell (by simp [go_sem]) (fun e=>by simp at e;omega)
   have HGL:Hid ((Gn pl i (x,y,z)).length≤300):=by
    have:=Gn_len pl i (x,y,z)
    have:(Gn pl i (x,y,z)).length≤300:=by omega
    exact this
   have HOW:Hid (W2.ownsRow (w.heap.size+2) 3 1 v0 (Gn pl i (x,y,z)).length ((Gn pl i (x,y,z)).map (Value.int .i64))):=hown
   have hp2:W2.cell? ⟨w.heap.size,4,none⟩=some (.slice (some ⟨gp,0,none⟩) n pc):=hg2.cell (cl_kept (bl_alloc (bl_alloc (bl_refl _))) HP.out.p) (fun e=>by simp at e)
   have hb2:Below w.heap.size w W2:=by
    have k1:Below w.heap.size w ((wr.alloc (.cells #[.int .i64 x,.int .i64 y,.int .i64 z] 56)).alloc (.cells #[.int .i64 (i:Int)] 3)):=bl_alloc (bl_alloc HP.out.b)
    exact k1.grown hg2 k1.size (fun r e=>by cases e;omega)
   have HBK:Hid (∀ g cap W3,W2.grownBy W3 v0.ownBlock→W3.ownsRow (w.heap.size+2) 3 1 (.slice (some ⟨g,0,none⟩) ((Gn pl i (x,y,z)).length+1) cap) ((Gn pl i (x,y,z)).length+1) ((Gn pl i (x,y,z)).map (Value.int .i64) ++ [.int .i64 (i:Int)])→(v0.ownBlock=some g∨g=wr.heap.size+2) →
     ∃ W4,(Instr.entryStore 200 (.map (some (w.heap.size+1))) (.int .i64 st) (.slice (some ⟨g,0,none⟩) ((Gn pl i (x,y,z)).length+1) cap)).run Tryz.prog W3=.ok () W4∧PLW w W4 (w.heap.size+1) n pc (some ⟨gp,0,none⟩) pl (i+1)):=fun g cap W3 u1 u2 u3=>by
    obtain ⟨W4,s1,s2,s3⟩:=hback (.slice (some ⟨g,0,none⟩) ((Gn pl i (x,y,z)).length+1) cap) W3 u1 u2 (u3.imp (fun q=>q.symm) (fun q=>by rw [q,hW2];rfl))
    have nb:∀ r,v0.ownBlock=some r→w.heap.size+2≤r:=fun r e=>(hown.lt r e).1
    have k3:Below w.heap.size w W3:=hb2.grown u1 hb2.size (fun r e=>by have:=nb r e;omega)
    refine ⟨W4,s1, ?_,s2.cell (u1.cell hp2 (fun e=>by have:=nb _ e.symm;dsimp only at this;omega)) (fun e=>by simp at e),k3.grown s2 k3.size (fun r e=>by cases e;omega)⟩
    have e9:(fun j=>if j=(x,y,z) then Gn pl i (x,y,z) ++ [(i:Int)] else Gn pl i j)=Gn pl (i+1):=by
     funext j
     show _=if j=pl.getD i (0,0,0) then Gn pl i (pl.getD i (0,0,0)) ++ [(i:Int)] else Gn pl i j
     rw [hgt]
    rw [e9] at s3
    exact s3
   obtain ⟨nG,hnG⟩:∃ m,m=(Gn pl i (x,y,z)).length:=⟨_,rfl⟩
   obtain ⟨xG,hxG⟩:∃ m,m=(Gn pl i (x,y,z)).map (Value.int .i64):=⟨_,rfl⟩
   rw [← hnG,← hxG] at HOW HBK
   rw [← hnG] at HGL
   clear hown hback hrun hg2 hz2 hgt ht hnG hxG hb2 hp2 hil
   go_wp2_with (at_builtin;refine wpList_append_lies _ rfl (.tmp 17) (.tmp 19) 22 rfl (w.heap.size+2) 3 i3 (.int .i64 0) 1 8 Tryz.underlying22 HI.out.1 HI.out.2.1 HI.out.2.2.1 HI.out.2.2.2 rfl (by decide) v0 nG xG rfl HOW.out ⟨wr.heap.size+1,0,none⟩ 1 1 [.int .i64 (i:Int)] rfl rfl (cell_one _ hnw) (one_cell _) (by decide) (by have:=HGL.out;unfold maxLen;omega) (by have:=HGL.out;omega) (by omega) W2.heap.size rfl ?grow)
   case grow =>
    intro g cap W3 hown3 hgrow hat hlt
    obtain ⟨W4,hst,hP4⟩:=HBK.out g cap W3 hgrow hown3 hat
    have HP4:Hid (PLW w W4 (w.heap.size+1) n pc (some ⟨gp,0,none⟩) pl (i+1)):=hP4
    clear hP4 hown3 hat hgrow
    go_wp2
    go_roundg (n - (i+1))
    case measure=>omega
    case rel=>exact ⟨i+1,by omega,rfl,by go_num,HP4.out⟩
  ·have i1:¬ (i:Int)<(n:Int):=by omega
   obtain rfl:i=n:=by omega
   obtain ⟨W2,hW2⟩:∃ W2,W2=wr.alloc (.cells #[.map (some (w.heap.size+1))] 200):=⟨_,rfl⟩
   have hbW:Below wr.heap.size wr W2:=by rw [hW2];exact bl_alloc (bl_refl _)
   obtain ⟨ls,c,t1,t2,t3,t4,t5⟩:=HP.out.m.kept hbW
   have hbx:W2.cell? ⟨wr.heap.size,0,none⟩=some (.map (some (w.heap.size+1))):=by rw [hW2];simp [go_sem]
   have hgpw:gp<w.heap.size:=by
    obtain ⟨g',eg,q0,_⟩:=HT.out 0 (by rw [← HNL.out];omega)
    cases eg
    exact World.block_lt_of_cell? _ _ q0
   have hb2:Below w.heap.size w W2:=bl_via HP.out.b hbW
   have hrow:∀ x∈ls,∃ g q,x.2.1=.slice (some ⟨g,0,none⟩) (Gn pl i x.1).length q∧W2.ownsRow (w.heap.size+2) 3 1 x.2.1 (Gn pl i x.1).length ((Gn pl i x.1).map (Value.int .i64))∧Gn pl i x.1≠[]:=fun x hx=>by
    obtain ⟨a1,a2,_⟩:=t4 x.1 x.2.1 (Tlk_of t2 hx)
    obtain ⟨g,q,e⟩:=own_slice a1 (List.length_pos_iff.2 a2)
    exact ⟨g,q,e,a1,a2⟩
   have hRA:∀ x∈ls,RowAt W2 gp i x:=fun x hx=>by
    obtain ⟨g,q,e,a1,a2⟩:=hrow x hx
    have hl:=List.length_pos_iff.2 a2
    obtain ⟨k,hk⟩:=Gn_nat pl i x.1 ((Gn pl i x.1)[0]) (List.getElem_mem hl)
    have hkm:=(Gn_mem pl x.1 i k).1 (by rw [← hk];exact List.getElem_mem hl)
    rw [e] at a1
    have hc:=a1.cellAt 0 (by omega)
    have hkl:k<pl.length:=by rw [← HNL.out];exact hkm.1
    obtain ⟨g',eg,q0,q1,q2⟩:=(HT.out.kept hb2) k hkl
    cases eg
    have e3:pl[k]=x.1:=by rw [← hkm.2,List.getD_eq_getElem?_getD,List.getElem?_eq_getElem hkl];rfl
    rw [e3] at q0 q1 q2
    refine ⟨g,_,q,k,e,hl, ?_,hkm.1,q0,q1,q2⟩
    rw [hc,List.getElem?_map,List.getElem?_eq_getElem hl,hk]
    rfl
   have hlen:ls.length≤300:=by
    have h1:=sub_lenT (ls.map (fun x=>x.1)) pl t2.1 (fun e he=>by
     obtain ⟨x,hx,rfl⟩:=List.mem_map.1 he
     obtain ⟨g,q,e,a1,a2⟩:=hrow x hx
     have hl:=List.length_pos_iff.2 a2
     obtain ⟨k,hk⟩:=Gn_nat pl i x.1 ((Gn pl i x.1)[0]) (List.getElem_mem hl)
     have hkm:=(Gn_mem pl x.1 i k).1 (by rw [← hk];exact List.getElem_mem hl)
     have hkl:k<pl.length:=by rw [← HNL.out];exact hkm.1
     rw [← hkm.2,List.getD_eq_getElem?_getD,List.getElem?_eq_getElem hkl]
     exact List.getElem_mem hkl)
    rw [List.length_map,← HNL.out] at h1
    omega
   have hall:∀ k,k<pl.length→∃ x∈ls,x.1=pl.getD k (0,0,0):=fun k hk=>by
    have hm:=(Gn_mem pl (pl.getD k (0,0,0)) i k).2 ⟨by rw [HNL.out];exact hk,rfl⟩
    cases hl:Tlk ls (pl.getD k (0,0,0)) with
    | none =>
     rw [t3 _ hl] at hm
     cases hm
    | some v =>
     obtain ⟨x,hx,e,_⟩:=Tlk_some hl
     exact ⟨x,hx,e⟩
   have h0:ls≠[]:=fun e=>by
    obtain ⟨x,hx,_⟩:=hall 0 (by rw [← HNL.out];exact h0n)
    rw [e] at hx
    cases hx
   have CS:Hid (Calls Tryz.prog 141 #[.func (.func 175) #[] #[.pointer (some ⟨wr.heap.size,0,none⟩)],.func (.func 143) #[] #[.pointer (some ⟨w.heap.size,0,none⟩)]] W2 fun e w'=>SRows W2 w' ls e):=sortedRows_any W2 wr.heap.size (w.heap.size+1) c w.heap.size gp i pc ls t2 h0 hlen hbx t1 (cl_kept hbW HP.out.p) (Nat.lt_of_lt_of_le hgpw hb2.size) hRA
   have HLS:Hid ((∀ x∈ls,∃ g q,x.2.1=.slice (some ⟨g,0,none⟩) (Gn pl i x.1).length q∧W2.ownsRow (w.heap.size+2) 3 1 x.2.1 (Gn pl i x.1).length ((Gn pl i x.1).map (Value.int .i64))∧Gn pl i x.1≠[])∧(∀ k,k<pl.length→∃ x∈ls,x.1=pl.getD k (0,0,0))∧TGood ls c∧(∀ e e' v v',e≠e'→Tlk ls e=some v→Tlk ls e'=some v'→v.ownBlock≠v'.ownBlock)∧Below w.heap.size w W2):=⟨hrow,hall,t2,t5,hb2⟩
   have HW2:Hid (W2=wr.alloc (.cells #[.map (some (w.heap.size+1))] 200)):=hW2
   clear t1 t2 t3 t4 t5 hbx hrow hRA hlen hall h0 hbW hb2 hW2
   go_wp2_with (first | (go_at_call 142;refine (values_any _ _).mono ?_;rintro e w2 ⟨rfl,rfl⟩;rw [← HW2.out]) | (go_at_call 141;refine CS.out.mono ?_;rintro e w3 ⟨g,q,vis,rfl,h1,h2,h3,h4,h5⟩;have HF:Hid (vis.Perm ls∧vis.Pairwise (fun x y=>¬ ltT y.1 x.1)∧(∀ i (hi:i<vis.length),w3.cell? ⟨g,i,none⟩=some vis[i].2.1)∧W2.heap.size≤g∧Below W2.heap.size W2 w3):=⟨h1,h2,h3,h4,h5⟩;clear h1 h2 h3 h4 h5))
   go_ret
   obtain ⟨f1,f2,f3,f4,f5⟩:=HF.out
   obtain ⟨l1,l2,l3,l4,l5⟩:=HLS.out
   have zm:=HP.out.b.size
   have hin:∀ x∈vis,x∈ls:=fun x hx=>f1.mem_iff.1 hx
   have hnl:=HNL.out
   subst hnl
   have hnd:(vis.map (fun x=>x.1)).Nodup:=(f1.map (fun x=>x.1)).nodup_iff.2 l3.1
   refine ⟨g,vis.length,q,vis.map (fun x=>(x.1,blkOf x.2.1,capOf x.2.1)),by simp,⟨by simp, ?_, ?_, ?_, ?_, ?_, ?_, ?_,bl_via l5 f5⟩⟩
   ·rw [List.pairwise_map]
    have hn2:=List.pairwise_map.1 hnd
    exact (f2.and hn2).imp (fun {a b} h=>ltT_three h.1 (fun e=>h.2 e.symm))
   ·intro j hj
    have hj2:j<vis.length:=by simpa using hj
    obtain ⟨g1,q1,e1,_⟩:=l1 vis[j] (hin _ (List.getElem_mem hj2))
    rw [f3 j hj2,List.getElem_map]
    rw [e1]
    simp [blkOf,capOf]
   ·intro s hs
    obtain ⟨x,hx,rfl⟩:=List.mem_map.1 hs
    obtain ⟨g1,q1,e1,o1,_⟩:=l1 x (hin x hx)
    have o2:=own_below o1 f5
    rw [e1] at o2 ⊢
    exact ⟨o2.1,o2.2.imp id (fun ⟨g,cap,cur,h1,h2,h3⟩=>⟨g,cap,cur,h1,Nat.le_trans (by omega) h2,h3⟩)⟩
   ·intro s hs
    obtain ⟨x,hx,rfl⟩:=List.mem_map.1 hs
    obtain ⟨g1,q1,e1,_,o2⟩:=l1 x (hin x hx)
    exact o2
   ·intro k hk
    obtain ⟨x,hx,e1⟩:=l2 k hk
    exact ⟨_,List.mem_map.2 ⟨x,f1.mem_iff.2 hx,rfl⟩,e1⟩
   ·rw [List.pairwise_map]
    have hn2:=List.pairwise_map.1 hnd
    refine hn2.imp_of_mem (fun {a b} ha hb h=>?_)
    have k1:=l4 a.1 b.1 a.2.1 b.2.1 h (Tlk_of l3 (hin a ha)) (Tlk_of l3 (hin b hb))
    obtain ⟨g1,q1,e1,_⟩:=l1 a (hin a ha)
    obtain ⟨g2,q2,e2,_⟩:=l1 b (hin b hb)
    rw [e1,e2] at k1 ⊢
    simpa [Value.ownBlock,blkOf] using k1
   ·intro s hs
    obtain ⟨x,hx,rfl⟩:=List.mem_map.1 hs
    obtain ⟨g1,q1,e1,o1,o2⟩:=l1 x (hin x hx)
    rw [e1] at o1 ⊢
    have z1:=(o1.lt g1 rfl).2
    simp only [blkOf]
    omega
end Go.Proofs.YtgpjaecgkkgehaaGreatDoor
