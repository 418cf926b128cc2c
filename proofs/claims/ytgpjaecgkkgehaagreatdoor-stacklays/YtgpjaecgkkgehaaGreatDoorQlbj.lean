/- A part of the proof of stackLays_holds. -/
import Derived.Test.YtgpjaecgkkgehaaGreatDoorQlba
import Derived.Test.YtgpjaecgkkgehaaGreatDoorQlbf
import Derived.Test.YtgpjaecgkkgehaaGreatDoorQlbg
import Derived.Test.YtgpjaecgkkgehaaGreatDoorQlbi
import Derived.Test.YtgpjaecgkkgehaaGreatDoorQlal
import Derived.Test.YtgpjaecgkkgehaaGreatDoorQlaq
set_option maxRecDepth 100000
set_option maxHeartbeats 40000000
namespace Go.Proofs.YtgpjaecgkkgehaaGreatDoor
open Go.RowKit
def pls (L:List (Int×Int×Int)) (M:Nat→M6) (n:Nat):List (Int×Int×Int):=(List.range n).map fun i=>mvt (M i) (L.getD i (0,0,0))
theorem Xs (L:List (Int×Int×Int)) (M:Nat→M6) (n:Nat):(pls L M n).length=n:=by simp [pls]
theorem pls_succ (L:List (Int×Int×Int)) (M:Nat→M6) (n:Nat):pls L M (n+1)=pls L M n++[mvt (M n) (L.getD n (0,0,0))]:=by
 unfold pls
 rw [List.range_succ,List.map_append]
 rfl
structure SpB (w0 wx:World) (B:Nat) (ad:Option Addr) (n cc ra rk gm cm:Nat) (v:Value) (l:List (Int×Int×Int)):Prop where
 c0:wx.cell? ⟨B,0,none⟩=some (.slice ad n cc)
 c1:wx.cell? ⟨B,1,none⟩=some (.map (some ra))
 c2:wx.cell? ⟨B,2,none⟩=some (.map (some rk))
 c3:wx.cell? ⟨B,3,none⟩=some (.slice (some ⟨gm,0,none⟩) n cm)
 c4:wx.cell? ⟨B,4,none⟩=some v
 f4:wx.frozen? ⟨B,4,none⟩=false
 own:wx.ownsRow (B+1) 56 3 v l.length (flatV l)
 low:w0.heap.size≤B
 bel:Bl w0 wx
theorem SpB.lt {w0 wx:World} {B:Nat} {ad:Option Addr} {n cc ra rk gm cm:Nat} {v:Value} {l:List (Int×Int×Int)} (h:SpB w0 wx B ad n cc ra rk gm cm v l):B<wx.heap.size:=bk h.c0
theorem SpB.kept {w0 wx w':World} {B:Nat} {ad:Option Addr} {n cc ra rk gm cm:Nat} {v:Value} {l:List (Int×Int×Int)} (h:SpB w0 wx B ad n cc ra rk gm cm v l) (hb:Bl wx w'):SpB w0 w' B ad n cc ra rk gm cm v l :=
 ⟨Qa hb h.c0,Qa hb h.c1,Qa hb h.c2,Qa hb h.c3,Qa hb h.c4,(hb.frozen h.lt).trans h.f4,Qs h.own hb,h.low,Qe h.bel hb⟩
theorem SpB.more {w0 wx w2:World} {B:Nat} {ad:Option Addr} {n cc ra rk gm cm:Nat} {v v':Value} {l:List (Int×Int×Int)} {t:Int×Int×Int} (h:SpB w0 wx B ad n cc ra rk gm cm v l) (hg:wx.grownBy w2 v.ownBlock) (ho:w2.ownsRow (B+1) 56 3 v' (l.length+1) (flatV l++[.int .i64 t.1,.int .i64 t.2.1,.int .i64 t.2.2])):SpB w0 (w2.setCell ⟨B,4,none⟩ v') B ad n cc ra rk gm cm v' (l++[t]):=by
 have hn:some B≠v.ownBlock:=fun e=>by
  have:=Q7 h.own B e.symm
  omega
 have hn':v'.ownBlock≠some B:=fun e=>by
  have:=Q7 ho B e
  omega
 have g1:=h.bel.grown hg h.bel.size (fun k hk=>by have:=Q7 h.own k hk;have:=h.low;omega)
 have hlt2:B<w2.heap.size:=Nat.lt_of_lt_of_le h.lt hg.size
 have c4:=hg.cell h.c4 hn
 have f4:w2.frozen? ⟨B,4,none⟩=false:=(World.frozen?_of_block (a:=⟨B,4,none⟩) (hg.block B h.lt hn)).trans h.f4
 refine ⟨Qp (hg.cell h.c0 hn) (by omega),Qp (hg.cell h.c1 hn) (by omega),Qp (hg.cell h.c2 hn) (by omega),Qp (hg.cell h.c3 hn) (by omega),Q8 c4,?_,?_,h.low,?_⟩
 ·simp [go_sem,f4]
 ·rw [Jq,List.length_append,List.length_singleton]
  exact ho.kept (Qm w2 B 4 v') (Or.inr hn')
 ·exact g1.setCell (p:=⟨B,4,none⟩) h.low _
theorem TRow.far {w:World} {pa:Option Addr} {l:List (Int×Int×Int)} {p:Addr} {u:Value} (h:TRow w pa l) (hn:∀g,pa=some ⟨g,0,none⟩→g≠p.block):TRow (w.setCell p u) pa l:=fun i hi=>by
 obtain ⟨g,e,c0,c1,c2⟩:=h i hi
 exact ⟨g,e,Xe c0 (hn g e),Xe c1 (hn g e),Xe c2 (hn g e)⟩
theorem TRow.dr {w:World} {pa:Option Addr} {l:List (Int×Int×Int)} (h:TRow w pa l):TRow w.drew pa l:=fun i hi=>by
 obtain ⟨g,e,c0,c1,c2⟩:=h i hi
 exact ⟨g,e,Qi c0,Qi c1,Qi c2⟩
theorem fresh3_d {v w8:World} {g:Nat} (hg:v.heap.size=g) (hb:Below ((v.alloc (.cells #[.int .i64 0,.int .i64 0,.int .i64 0] 56)).drew).heap.size ((v.alloc (.cells #[.int .i64 0,.int .i64 0,.int .i64 0] 56)).drew) w8):(w8.cell? ⟨g,0,none⟩=some (.int .i64 0)∧w8.cell? ⟨g,1,none⟩=some (.int .i64 0)∧w8.cell? ⟨g,2,none⟩=some (.int .i64 0))∧(w8.frozen? ⟨g,0,none⟩=false∧w8.frozen? ⟨g,1,none⟩=false∧w8.frozen? ⟨g,2,none⟩=false)∧g<w8.heap.size:=by
 subst hg
 have c0:w8.cell? ⟨v.heap.size,0,none⟩=some (.int .i64 0):=Qa hb (by simp [go_sem])
 refine ⟨⟨c0,Qa hb (by simp [go_sem]),Qa hb (by simp [go_sem])⟩,⟨?_,?_,?_⟩,bk c0⟩
 all_goals exact (hb.frozen (by simp)).trans (by simp [go_sem])
theorem spread_pile (w:World) (cc ra rk gm cm:Nat) (ad:Option Addr) (L:List (Int×Int×Int)) (kd:Int×Int×Int×Int→Int) (M:Nat→M6) (hs:Steps w) (hPA:PA w ad ra L) (hK:KL w rk kd) (hL:L.length≤300) (hbd:∀t∈L,(0≤t.1∧t.1≤8)∧(0≤t.2.1∧t.2.1≤8)∧(0≤t.2.2∧t.2.2≤3)) (hM:MRow w gm L.length M) (hC:Cons kd L M) (hG:∀i,i<L.length→GoodM (M i) 48000) :
  Calls Tryz.prog 66 #[.agg #[.slice ad L.length cc,.map (some ra),.map (some rk)],.slice (some ⟨gm,0,none⟩) L.length cm] w fun e w'=>∃pa pc,e=.returned (.tuple #[.agg #[.slice ad L.length cc,.map (some ra),.map (some rk),.slice (some ⟨gm,0,none⟩) L.length cm,.slice pa L.length pc],.bool true])∧TRow w' pa (pls L M L.length)∧Bl w w':=by
 have CF:Hid (∀(W':World) (pa:Option Addr) (pn pc:Nat),Bl w W'→Calls Tryz.prog 103 #[.agg #[.slice ad L.length cc,.map (some ra),.map (some rk),.slice (some ⟨gm,0,none⟩) L.length cm,.slice pa pn pc]] W' fun e w'=>e=.returned (.bool true)∧Bl W' w'):=fun W' pa pn pc hW'=>fits_any W' cc ra rk gm cm ad pa pn pc L kd M (hs.kept hW') (hPA.kept hW') (hK.kept hW') hL hbd (hM.kept hW') hC hG
 have CM:Hid (∀(W':World) (i:Nat) (hi:i<L.length),Bl w W'→Calls Tryz.prog 102 #[.agg #[.int .i64 (M i).1,.int .i64 (M i).2.1,.int .i64 (M i).2.2.1,.int .i64 (M i).2.2.2.1,.int .i64 (M i).2.2.2.2.1,.int .i64 (M i).2.2.2.2.2],.agg #[.int .i64 L[i].1,.int .i64 L[i].2.1,.int .i64 L[i].2.2]] W' fun r w'=>r=.returned (.tuple #[.agg #[.int .i64 (mvt (M i) L[i]).1,.int .i64 (mvt (M i) L[i]).2.1,.int .i64 (mvt (M i) L[i]).2.2],.int .i64 0])∧Bl W' w'):=fun W' i hi hW'=>Move_small (M i) L[i] W' (hG i hi) (hbd _ (List.getElem_mem hi)) (hs.kept hW')
 have HR:Hid (TRow w ad L∧MRow w gm L.length M):=⟨hPA.1,hM⟩
 obtain ⟨i3,hi3,hz30,hz31,hz32⟩:=info_parts inf23
 have HI:Hid (Tryz.prog.info? 56=some i3∧i3.zero=some (.agg #[.int .i64 0,.int .i64 0,.int .i64 0])∧i3.size=3∧i3.bytes=24):=⟨hi3,hz30,hz31,hz32⟩
 have qn:((L.length:Int) != (L.length:Int))=false:=by simp
 clear hs hPA hK hbd hM hC hG hi3 hz30 hz31 hz32
 go_enter Tryz.func66,Tryz.ntmps66
 go_wp2
 go_loopg [24] L.length (fun gk s24 wx=>∃(i:Nat) (v:Value),i≤L.length∧gk=L.length-i∧s24=.int .i64 (i:Int)∧SpB ((w.alloc (.cells #[.slice ad L.length cc,.map (some ra),.map (some rk)] 68)).alloc (.cells #[.slice none 0 0,.map none,.map none,.slice none 0 0,.slice none 0 0] 70)) wx (w.heap.size+1+1) ad L.length cc ra rk gm cm v (pls L M i))
 case atStart=>exact ⟨0,.slice none 0 0,by omega,rfl,rfl,⟨by simp [go_sem],by simp [go_sem],by simp [go_sem],by simp [go_sem],by simp [go_sem],by simp [go_sem],⟨by simp [pls,flatV],.inl ⟨rfl,by simp [pls]⟩⟩,by simp,Qb (Qc _)⟩⟩
 case round =>
  obtain ⟨i,v,hi,rfl,rfl,hS⟩:=hrel
  have HS:Hid (SpB ((w.alloc (.cells #[.slice ad L.length cc,.map (some ra),.map (some rk)] 68)).alloc (.cells #[.slice none 0 0,.map none,.map none,.slice none 0 0,.slice none 0 0] 70)) wr (w.heap.size+1+1) ad L.length cc ra rk gm cm v (pls L M i)):=hS
  have HB:Hid (Bl w wr):=Qe (Qb (Qb (Qc _))) hS.bel
  have zB:=hS.lt
  clear hS
  by_cases h1:i<L.length
  ·have i1:(i:Int)<(L.length:Int):=by omega
   have i0:(0:Int)≤(i:Int):=by omega
   obtain ⟨gt_,rfl,t0,t1,t2⟩:=HR.out.1 i h1
   replace t0:=Qa HB.out t0
   replace t1:=Qa HB.out t1
   replace t2:=Qa HB.out t2
   have zt:gt_<wr.heap.size:=bk t0
   obtain ⟨⟨y0,y1,y2,y3,y4,y5⟩,_⟩:=HR.out.2 i h1
   have CMi:=CM.out
   obtain ⟨A,B,C,D,E,F,hmi⟩:∃A B C D E F,M i=(A,B,C,D,E,F):=⟨_,_,_,_,_,_,rfl⟩
   obtain ⟨x,y,k,hti⟩:∃x y k,L[i]=(x,y,k):=⟨_,_,_,rfl⟩
   obtain ⟨X,Y,K,hmv⟩:∃X Y K,mvt (M i) L[i]=(X,Y,K):=⟨_,_,_,rfl⟩
   have CMr:Hid (∀W':World,Bl wr W'→Calls Tryz.prog 102 #[.agg #[.int .i64 A,.int .i64 B,.int .i64 C,.int .i64 D,.int .i64 E,.int .i64 F],.agg #[.int .i64 x,.int .i64 y,.int .i64 k]] W' fun r w'=>r=.returned (.tuple #[.agg #[.int .i64 X,.int .i64 Y,.int .i64 K],.int .i64 0])∧Bl W' w'):=fun W' hW'=>by
    have h:=CM.out W' i h1 (Qe HB.out hW')
    rw [hmv,hmi,hti] at h
    exact h
   rw [hmi] at y0 y1 y2 y3 y4 y5
   rw [hti] at t0 t1 t2
   dsimp only at y0 y1 y2 y3 y4 y5 t0 t1 t2
   have HP:Hid (pls L M (i+1)=pls L M i++[(X,Y,K)]):=by
    have:pls L M (i+1)=pls L M i++[(X,Y,K)]:=by
     rw [pls_succ,←hmv,List.getD_eq_getElem?_getD,List.getElem?_eq_getElem h1]
     rfl
    exact this
   clear CMi hmi hti hmv
   go_wp2
   refine Qr (fun W0 hW0=>?_)
   have HBN:Hid (Bl wr W0):=by
    have:Bl wr W0:=by rw [hW0];exact Qb (Qc _)
    exact this
   obtain ⟨B9,hB9⟩:∃b,b=wr.heap.size:=⟨_,rfl⟩
   have x0:W0.cell? ⟨B9,0,none⟩=some (.int .i64 x):=by rw [hW0,hB9];simp [go_sem]
   have x1:W0.cell? ⟨B9,1,none⟩=some (.int .i64 y):=by rw [hW0,hB9];simp [go_sem]
   have x2:W0.cell? ⟨B9,2,none⟩=some (.int .i64 k):=by rw [hW0,hB9];simp [go_sem]
   clear hW0
   rw [←hB9]
   clear hB9
   have bw2:=Qe HB.out HBN.out
   replace y0:=Qa bw2 y0
   replace y1:=Qa bw2 y1
   replace y2:=Qa bw2 y2
   replace y3:=Qa bw2 y3
   replace y4:=Qa bw2 y4
   replace y5:=Qa bw2 y5
   have zW1:gm<W0.heap.size:=bk y0
   have zWB:B9<W0.heap.size:=bk x0
   have CM0:Hid (∀W':World,Bl W0 W'→Calls Tryz.prog 102 #[.agg #[.int .i64 A,.int .i64 B,.int .i64 C,.int .i64 D,.int .i64 E,.int .i64 F],.agg #[.int .i64 x,.int .i64 y,.int .i64 k]] W' fun r w'=>r=.returned (.tuple #[.agg #[.int .i64 X,.int .i64 Y,.int .i64 K],.int .i64 0])∧Bl W' w'):=fun W' hW'=>CMr.out W' (Qe HBN.out hW')
   clear bw2 t0 t1 t2 zt
   go_cut [9,10] (fun s9 s10 wx=>∃g9:Nat,s9=.pointer (some ⟨g9,0,none⟩)∧s10=.int .i64 0∧(wx.cell? ⟨g9,0,none⟩=some (.int .i64 X)∧wx.cell? ⟨g9,1,none⟩=some (.int .i64 Y)∧wx.cell? ⟨g9,2,none⟩=some (.int .i64 K))∧Bl W0 wx)
   case first =>
    go_region_held3 (fun w'=>w'.cell? ⟨gm,i*6,none⟩=some (.int .i64 A)∧w'.cell? ⟨gm,i*6+1,none⟩=some (.int .i64 B)∧w'.cell? ⟨gm,i*6+2,none⟩=some (.int .i64 C)∧w'.cell? ⟨gm,i*6+3,none⟩=some (.int .i64 D)∧w'.cell? ⟨gm,i*6+4,none⟩=some (.int .i64 E)∧w'.cell? ⟨gm,i*6+5,none⟩=some (.int .i64 F)∧w'.cell? ⟨B9,0,none⟩=some (.int .i64 x)∧w'.cell? ⟨B9,1,none⟩=some (.int .i64 y)∧w'.cell? ⟨B9,2,none⟩=some (.int .i64 k))
     ((refine ⟨?_,?_,?_,?_,?_,?_,?_,?_,?_⟩<;>(repeat' (first|(with_reducible assumption)|(with_reducible refine Xe ?_ ?_)|(dsimp only;omega)|(simp [go_sem];done)|(with_reducible refine Qh ?_)|(with_reducible refine Qi ?_)))))
     ((go_at_call 102;refine (CM0.out _ (by with_reducible repeat (first|exact Qc _|refine Qf ?_|refine Qb ?_))).mono ?_;rintro e w8 ⟨rfl,hb⟩;have y0_8:w8.cell? ⟨gm,i*6,none⟩=some (.int .i64 A):=Qa hb (by with_reducible (repeat (first|assumption|refine Qi ?_|refine Qh ?_)));have y1_8:w8.cell? ⟨gm,i*6+1,none⟩=some (.int .i64 B):=Qa hb (by with_reducible (repeat (first|assumption|refine Qi ?_|refine Qh ?_)));have y2_8:w8.cell? ⟨gm,i*6+2,none⟩=some (.int .i64 C):=Qa hb (by with_reducible (repeat (first|assumption|refine Qi ?_|refine Qh ?_)));have y3_8:w8.cell? ⟨gm,i*6+3,none⟩=some (.int .i64 D):=Qa hb (by with_reducible (repeat (first|assumption|refine Qi ?_|refine Qh ?_)));have y4_8:w8.cell? ⟨gm,i*6+4,none⟩=some (.int .i64 E):=Qa hb (by with_reducible (repeat (first|assumption|refine Qi ?_|refine Qh ?_)));have y5_8:w8.cell? ⟨gm,i*6+5,none⟩=some (.int .i64 F):=Qa hb (by with_reducible (repeat (first|assumption|refine Qi ?_|refine Qh ?_)));have x0_8:w8.cell? ⟨B9,0,none⟩=some (.int .i64 x):=Qa hb (by with_reducible (repeat (first|assumption|refine Qi ?_|refine Qh ?_)));have x1_8:w8.cell? ⟨B9,1,none⟩=some (.int .i64 y):=Qa hb (by with_reducible (repeat (first|assumption|refine Qi ?_|refine Qh ?_)));have x2_8:w8.cell? ⟨B9,2,none⟩=some (.int .i64 k):=Qa hb (by with_reducible (repeat (first|assumption|refine Qi ?_|refine Qh ?_)));(first|(have hfz:=fresh3_a (g:=W0.heap.size) rfl hb;obtain ⟨⟨fy0,fy1,fy2⟩,⟨fz0,fz1,fz2⟩,fzz⟩:=hfz)|(have hfz:=fresh3_d (g:=W0.heap.size) rfl hb;obtain ⟨⟨fy0,fy1,fy2⟩,⟨fz0,fz1,fz2⟩,fzz⟩:=hfz)|(have hfz:=fresh3_dd (g:=W0.heap.size) rfl hb;obtain ⟨⟨fy0,fy1,fy2⟩,⟨fz0,fz1,fz2⟩,fzz⟩:=hfz)|skip);have hq:Bl W0 w8:=(by with_reducible (first|exact hb|exact Qu hb|exact Qu (Qu hb)|exact Qe (Qb (Qc _)) hb|exact Qe (Qf (Qb (Qc _))) hb|exact Qe (Qb (Qf (Qc _))) hb|exact Qe (Qf (Qb (Qf (Qc _)))) hb|exact Qe (Qf (Qf (Qb (Qc _)))) hb|exact Qe (Qb (Qf (Qf (Qc _)))) hb));have HQ8:Hid (Bl W0 w8):=hq;have zs1:gm<w8.heap.size:=bk y0_8;have zs2:B9<w8.heap.size:=bk x0_8;have zs3:=hq.size;clear hb hq))
    all_goals
     go_wp2
     go_meet
     case rel =>
      refine ⟨_,rfl,rfl,?_,?_⟩
      ·first|(simp [go_sem];done)|(simp [go_sem, *];done)
      ·with_reducible repeat' (first|exact HQ8.out|refine Ql ?_ ?_|refine Qb ?_|refine Qf ?_)
       all_goals (first|omega|(dsimp only;omega)|(simp;done))
   case rest =>
    obtain ⟨g9,rfl,rfl,⟨e0,e1,e2⟩,hBc⟩:=hcut
    have HSc:Hid (SpB _ wc (w.heap.size+1+1) _ _ _ _ _ _ _ v (pls L M i)):=HS.out.kept (Qe HBN.out hBc)
    have z9:g9<wc.heap.size:=bk e0
    have c4:=HSc.out.c4
    have zBc:=HSc.out.lt
    clear HS HB HBN CMr CM0 hBc y0 y1 y2 y3 y4 y5 x0 x1 x2 zW1 zWB zB
    have hb1:w.heap.size+1+1+1≤wc.heap.size:=by omega
    have HPL:Hid ((pls L M i).length=i):=Xs L M i
    have HO:Hid (wc.ownsRow (w.heap.size+1+1+1) 56 3 v i (flatV (pls L M i))):=by
     have:=HSc.out.own
     rw [HPL.out] at this
     exact this
    go_wp2_with (at_builtin;refine wpList_append_own _ rfl (.tmp 42) (.tmp 44) 57 rfl (w.heap.size+1+1+1) 56 i3 (.agg #[.int .i64 0,.int .i64 0,.int .i64 0]) 3 24 Tryz.underlying57 HI.out.1 HI.out.2.1 HI.out.2.2.1 HI.out.2.2.2 rfl (by decide) v i (flatV (pls L M i)) rfl (Qs HO.out (Qb (Qc _))) ⟨wc.heap.size,0,none⟩ 1 1 [.int .i64 X,.int .i64 Y,.int .i64 K] rfl rfl (Q9 wc X Y K) (three_cell X Y K) (by unfold maxLen;omega) (by omega) (by simp;omega) ?grow)
    case grow =>
     intro v' w3 hown hgrow _
     obtain ⟨gv,cv,rfl⟩:∃gv cv,v'=.slice (some ⟨gv,0,none⟩) (i+1) cv:=by
      rcases hown.2 with ⟨_,h0⟩|⟨gv,cv,_,h,_⟩
      ·omega
      ·exact ⟨gv,cv,h⟩
     have hk:=HSc.out.kept (Qb (o:=.cells #[.int .i64 X,.int .i64 Y,.int .i64 K] 56) (Qc wc))
     have hN:=hk.more (t:=(X,Y,K)) hgrow (by rw [HPL.out];exact hown)
     rw [←HP.out] at hN
     have HN:=(show Hid _ from hN)
     have hnB:some (w.heap.size+1+1)≠v.ownBlock:=fun e=>by
      have:=Q7 hk.own _ e.symm
      omega
     have d4:=hgrow.cell hk.c4 hnB
     have k4:w3.frozen? ⟨w.heap.size+1+1,4,none⟩=false:=(World.frozen?_of_block (a:=⟨w.heap.size+1+1,4,none⟩) (hgrow.block _ hk.lt hnB)).trans hk.f4
     have z3:w.heap.size+1+1<w3.heap.size:=bk d4
     clear hown hgrow hk hN hnB
     go_wp2
     go_roundg (L.length-(i+1))
     case measure=>omega
     case rel=>exact ⟨i+1,_,by omega,rfl,by go_num,HN.out⟩
  ·have i1:¬(i:Int)<(L.length:Int):=by omega
   obtain rfl:i=L.length:=by omega
   obtain ⟨pa,pc,rfl,hT⟩:=Jk HS.out.own
   rw [Xs] at HS
   have c0:=HS.out.c0
   have c1:=HS.out.c1
   have c2:=HS.out.c2
   have c3:=HS.out.c3
   have c4:=HS.out.c4
   have HT:Hid (TRow wr pa (pls L M L.length)):=hT
   have HPA:Hid (∀g,pa=some ⟨g,0,none⟩→w.heap.size+1+1+1≤g):=fun g e=>Q7 HS.out.own g (by rw [e];rfl)
   clear hT
   have d0:wr.cell? ⟨w.heap.size+1,0,none⟩=some (.slice none 0 0):=Qa HS.out.bel (by simp [go_sem])
   have d1:wr.cell? ⟨w.heap.size+1,1,none⟩=some (.map none):=Qa HS.out.bel (by simp [go_sem])
   have d2:wr.cell? ⟨w.heap.size+1,2,none⟩=some (.map none):=Qa HS.out.bel (by simp [go_sem])
   have d3:wr.cell? ⟨w.heap.size+1,3,none⟩=some (.slice none 0 0):=Qa HS.out.bel (by simp [go_sem])
   have d4:wr.cell? ⟨w.heap.size+1,4,none⟩=some (.slice none 0 0):=Qa HS.out.bel (by simp [go_sem])
   have zD:w.heap.size+1<wr.heap.size:=bk d0
   have k0:wr.frozen? ⟨w.heap.size+1,0,none⟩=false:=(HS.out.bel.frozen (by simp)).trans (by simp [go_sem])
   have k1:wr.frozen? ⟨w.heap.size+1,1,none⟩=false:=(HS.out.bel.frozen (by simp)).trans (by simp [go_sem])
   have k2:wr.frozen? ⟨w.heap.size+1,2,none⟩=false:=(HS.out.bel.frozen (by simp)).trans (by simp [go_sem])
   have k3:wr.frozen? ⟨w.heap.size+1,3,none⟩=false:=(HS.out.bel.frozen (by simp)).trans (by simp [go_sem])
   have k4:wr.frozen? ⟨w.heap.size+1,4,none⟩=false:=(HS.out.bel.frozen (by simp)).trans (by simp [go_sem])
   have CF0:Hid (∀W':World,Bl wr W'→Calls Tryz.prog 103 #[.agg #[.slice ad L.length cc,.map (some ra),.map (some rk),.slice (some ⟨gm,0,none⟩) L.length cm,.slice pa L.length pc]] W' fun e w'=>e=.returned (.bool true)∧Bl W' w'):=fun W' hW'=>CF.out W' pa L.length pc (Qe HB.out hW')
   have HB1:Hid (Bl w wr):=HB.out
   clear CF CM HR HI HS HB
   go_wp2
   go_region_held3 (fun w'=>w'.cell? ⟨w.heap.size+1+1,0,none⟩=some (.slice ad L.length cc)∧w'.cell? ⟨w.heap.size+1+1,1,none⟩=some (.map (some ra))∧w'.cell? ⟨w.heap.size+1+1,2,none⟩=some (.map (some rk))∧w'.cell? ⟨w.heap.size+1+1,3,none⟩=some (.slice (some ⟨gm,0,none⟩) L.length cm)∧w'.cell? ⟨w.heap.size+1+1,4,none⟩=some (.slice pa L.length pc))
    ((refine ⟨?_,?_,?_,?_,?_⟩<;>(repeat' (first|(with_reducible assumption)|(with_reducible refine Xe ?_ ?_)|(dsimp only;omega)|(simp [go_sem];done)|(with_reducible refine Qh ?_)|(with_reducible refine Qi ?_)))))
    ((go_at_call 103;refine (CF0.out _ (by with_reducible repeat (first|exact Qc _|refine Qf ?_|refine Qb ?_))).mono ?_;rintro e w8 ⟨rfl,hb⟩;have c0_8:w8.cell? ⟨w.heap.size+1+1,0,none⟩=some (.slice ad L.length cc):=Qa hb (by with_reducible (repeat (first|assumption|refine Qi ?_|refine Qh ?_)));have c1_8:w8.cell? ⟨w.heap.size+1+1,1,none⟩=some (.map (some ra)):=Qa hb (by with_reducible (repeat (first|assumption|refine Qi ?_|refine Qh ?_)));have c2_8:w8.cell? ⟨w.heap.size+1+1,2,none⟩=some (.map (some rk)):=Qa hb (by with_reducible (repeat (first|assumption|refine Qi ?_|refine Qh ?_)));have c3_8:w8.cell? ⟨w.heap.size+1+1,3,none⟩=some (.slice (some ⟨gm,0,none⟩) L.length cm):=Qa hb (by with_reducible (repeat (first|assumption|refine Qi ?_|refine Qh ?_)));have c4_8:w8.cell? ⟨w.heap.size+1+1,4,none⟩=some (.slice pa L.length pc):=Qa hb (by with_reducible (repeat (first|assumption|refine Qi ?_|refine Qh ?_)));have d0_8:w8.cell? ⟨w.heap.size+1,0,none⟩=some (.slice none 0 0):=Qa hb (by with_reducible (repeat (first|assumption|refine Qi ?_|refine Qh ?_)));have k0_8:w8.frozen? ⟨w.heap.size+1,0,none⟩=false:=(hb.frozen (by dsimp only;first|exact zD|(simp;exact zD))).trans (by first|exact k0|(simp [go_sem,k0];done));have d1_8:w8.cell? ⟨w.heap.size+1,1,none⟩=some (.map none):=Qa hb (by with_reducible (repeat (first|assumption|refine Qi ?_|refine Qh ?_)));have k1_8:w8.frozen? ⟨w.heap.size+1,1,none⟩=false:=(hb.frozen (by dsimp only;first|exact zD|(simp;exact zD))).trans (by first|exact k1|(simp [go_sem,k1];done));have d2_8:w8.cell? ⟨w.heap.size+1,2,none⟩=some (.map none):=Qa hb (by with_reducible (repeat (first|assumption|refine Qi ?_|refine Qh ?_)));have k2_8:w8.frozen? ⟨w.heap.size+1,2,none⟩=false:=(hb.frozen (by dsimp only;first|exact zD|(simp;exact zD))).trans (by first|exact k2|(simp [go_sem,k2];done));have d3_8:w8.cell? ⟨w.heap.size+1,3,none⟩=some (.slice none 0 0):=Qa hb (by with_reducible (repeat (first|assumption|refine Qi ?_|refine Qh ?_)));have k3_8:w8.frozen? ⟨w.heap.size+1,3,none⟩=false:=(hb.frozen (by dsimp only;first|exact zD|(simp;exact zD))).trans (by first|exact k3|(simp [go_sem,k3];done));have d4_8:w8.cell? ⟨w.heap.size+1,4,none⟩=some (.slice none 0 0):=Qa hb (by with_reducible (repeat (first|assumption|refine Qi ?_|refine Qh ?_)));have k4_8:w8.frozen? ⟨w.heap.size+1,4,none⟩=false:=(hb.frozen (by dsimp only;first|exact zD|(simp;exact zD))).trans (by first|exact k4|(simp [go_sem,k4];done));have hq:Bl wr w8:=(by with_reducible (first|exact hb|exact Qu hb|exact Qu (Qu hb)));have HQ8:Hid (Bl wr w8):=hq;have zs1:w.heap.size+1<w8.heap.size:=bk d0_8;have zs2:w.heap.size+1+1<w8.heap.size:=bk c0_8;clear hb hq))
   all_goals
    go_wp2
    refine bodyPost_ret (v:=.tuple #[.agg #[.slice ad L.length cc,.map (some ra),.map (some rk),.slice (some ⟨gm,0,none⟩) L.length cm,.slice pa L.length pc],.bool true]) (by simp [results,Tryz.results66,go_sem, *]) rfl ⟨pa,pc,rfl,?_,?_⟩
    ·have hT8:=HT.out.kept HQ8.out
     with_reducible repeat' (first|exact hT8|refine TRow.far ?_ ?_|refine TRow.dr ?_)
     all_goals (intro g e;have:=HPA.out g e;dsimp only;omega)
    ·with_reducible repeat' (first|exact Qe HB1.out HQ8.out|refine Ql ?_ ?_|refine Qf ?_)
     all_goals (dsimp only;omega)
end Go.Proofs.YtgpjaecgkkgehaaGreatDoor
namespace Go.Proofs.YtgpjaecgkkgehaaGreatDoor
open Go.RowKit Go.Shelf Go.ChangeMaps
def Gn (pl:List (Int×Int×Int)):Nat→Int×Int×Int→List Int
 | 0,_=>[]
 | i+1,e=>if e=pl.getD i (0,0,0) then Gn pl i (pl.getD i (0,0,0))++[(i:Int)] else Gn pl i e
theorem Gn_len (pl:List (Int×Int×Int)):∀i e,(Gn pl i e).length≤i
 | 0,e=>by simp [Gn]
 | i+1,e=>by
  unfold Gn
  split
  ·rw [List.length_append,List.length_singleton]
   have:=Gn_len pl i (pl.getD i (0,0,0))
   omega
  ·have:=Gn_len pl i e
   omega
theorem Gn_mem (pl:List (Int×Int×Int)) (e:Int×Int×Int):∀i (k:Nat),(k:Int)∈Gn pl i e↔k<i∧pl.getD k (0,0,0)=e
 | 0,k=>by simp [Gn]
 | i+1,k=>by
  unfold Gn
  by_cases q:e=pl.getD i (0,0,0)
  ·rw [if_pos q,←q,List.mem_append,Gn_mem pl e i k]
   constructor
   ·rintro (h|h)
    ·exact ⟨by omega,h.2⟩
    ·simp at h
     have:k=i:=by omega
     subst this
     exact ⟨by omega,q.symm⟩
   ·rintro ⟨h1,h2⟩
    by_cases q2:k<i
    ·exact Or.inl ⟨q2,h2⟩
    ·have:k=i:=by omega
     subst this
     exact Or.inr (by simp)
  ·rw [if_neg q,Gn_mem pl e i k]
   constructor
   ·rintro ⟨h1,h2⟩
    exact ⟨by omega,h2⟩
   ·rintro ⟨h1,h2⟩
    refine ⟨?_,h2⟩
    by_cases q2:k<i
    ·exact q2
    ·have:k=i:=by omega
     subst this
     exact absurd h2.symm q
theorem Gn_nat (pl:List (Int×Int×Int)):∀i e,∀x∈Gn pl i e,∃k:Nat,x=(k:Int)
 | 0,e,x,h=>by simp [Gn] at h
 | i+1,e,x,h=>by
  unfold Gn at h
  split at h
  ·rcases List.mem_append.1 h with h|h
   ·exact Gn_nat pl i _ x h
   ·simp at h
    exact ⟨i,h⟩
  ·exact Gn_nat pl i e x h
theorem sub_lenT {α:Type} [DecidableEq α]:∀(l m:List α),l.Nodup→(∀x∈l,x∈m)→l.length≤m.length
 | [],_,_,_=>by simp
 | x :: r,b,h,hs=>by
  rw [List.nodup_cons] at h
  have hx:=hs x (by simp)
  have h1:=sub_lenT r (b.erase x) h.2 (fun y hy=>by
   have hne:y≠x:=fun e=>h.1 (e ▸ hy)
   exact (List.mem_erase_of_ne hne).2 (hs y (by simp [hy])))
  rw [List.length_erase_of_mem hx] at h1
  have:=List.length_pos_of_mem hx
  rw [List.length_cons]
  omega
structure PLW (w wx:World) (rm n pc:Nat) (pa:Option Addr) (pl:List (Int×Int×Int)) (i:Nat):Prop where
 m:TGP wx (w.heap.size+2) rm (.slice none 0 0) (Gn pl i)
 p:wx.cell? ⟨w.heap.size,4,none⟩=some (.slice pa n pc)
 b:Bl w wx
def blkOf:Value→Nat
 | .slice (some a) _ _=>a.block
 | _=>0
def capOf:Value→Nat
 | .slice _ _ c=>c
 | _=>0
structure PiledTo (w w':World) (pl:List (Int×Int×Int)) (g m c:Nat) (S:List ((Int×Int×Int)×Nat×Nat)):Prop where
 len:S.length=m
 ord:S.Pairwise (fun x y=>ltT x.1 y.1)
 row:∀i (hi:i<S.length),w'.cell? ⟨g,i,none⟩=some (.slice (some ⟨S[i].2.1,0,none⟩) (Gn pl pl.length S[i].1).length S[i].2.2)
 own:∀s∈S,w'.ownsRow w.heap.size 3 1 (.slice (some ⟨s.2.1,0,none⟩) (Gn pl pl.length s.1).length s.2.2) (Gn pl pl.length s.1).length ((Gn pl pl.length s.1).map (Value.int .i64))
 ne:∀s∈S,Gn pl pl.length s.1≠[]
 all:∀k,k<pl.length→∃s∈S,s.1=pl.getD k (0,0,0)
 far:S.Pairwise (fun x y=>x.2.1≠y.2.1)
 off:∀s∈S,s.2.1≠g
 b:Bl w w'
theorem Tlk_of {ls:List ((Int×Int×Int)×Value×Nat)} {c:Nat} (hG:TGood ls c) {x:((Int×Int×Int)×Value×Nat)} (hx:x∈ls):Tlk ls x.1=some x.2.1:=by
 have h1:=hG.1
 clear hG
 induction ls with
 | nil=>cases hx
 | cons y r ih =>
  rw [List.map_cons,List.nodup_cons] at h1
  unfold Tlk
  rcases List.mem_cons.1 hx with rfl|hx
  ·rw [if_pos rfl]
  ·have:y.1≠x.1:=fun e=>h1.1 (e ▸ List.mem_map.2 ⟨x,hx,rfl⟩)
   rw [if_neg this]
   exact ih hx h1.2
theorem Tlk_some {ls:List ((Int×Int×Int)×Value×Nat)} {k:Int×Int×Int} {v:Value} (h:Tlk ls k=some v):∃x∈ls,x.1=k∧x.2.1=v:=by
 induction ls with
 | nil=>cases h
 | cons y r ih =>
  unfold Tlk at h
  by_cases q:y.1=k
  ·rw [if_pos q] at h
   simp at h
   exact ⟨y,by simp,q,h⟩
  ·rw [if_neg q] at h
   obtain ⟨x,hx,e⟩:=ih h
   exact ⟨x,by simp [hx],e⟩
theorem piled_any (w:World) (ad ma pa:Option Addr) (na ca nm cm pc:Nat) (ra rk:Option Nat) (pl:List (Int×Int×Int)) (hT:TRow w pa pl) (h0:0<pl.length) (hn:pl.length≤300) :
  Calls Tryz.prog 109 #[.agg #[.slice ad na ca,.map ra,.map rk,.slice ma nm cm,.slice pa pl.length pc]] w fun e w'=>∃g m c S,e=.returned (.slice (some ⟨g,0,none⟩) m c)∧PiledTo w w' pl g m c S:=by
 obtain ⟨gp,rfl⟩:∃gp,pa=some ⟨gp,0,none⟩:=by
  obtain ⟨g,e,_⟩:=hT 0 h0
  exact ⟨g,e⟩
 have HT:Hid (TRow w (some ⟨gp,0,none⟩) pl):=hT
 obtain ⟨i3,hi3,hz30,hz31,hz32⟩:=info_parts inf3
 have HI:Hid (Tryz.prog.info? 3=some i3∧i3.zero=some (.int .i64 0)∧i3.size=1∧i3.bytes=8):=⟨hi3,hz30,hz31,hz32⟩
 obtain ⟨n,hnl⟩:∃n,n=pl.length:=⟨_,rfl⟩
 have HNL:Hid (n=pl.length):=hnl
 have hn3:n≤300:=by omega
 have h0n:0<n:=by omega
 rw [←hnl]
 clear hT hi3 hz30 hz31 hz32 hnl h0 hn
 have hmm:=@run_makeMap Tryz.prog
 go_enter Tryz.func109,Tryz.ntmps109
 go_wp2
 obtain ⟨W1,hW1⟩:∃W1,W1=(w.alloc (.cells #[.slice ad na ca,.map ra,.map rk,.slice ma nm cm,.slice (some ⟨gp,0,none⟩) n pc] 70)).alloc (.map #[] 0):=⟨_,rfl⟩
 have HP1:Hid (PLW w W1 (w.heap.size+1) n pc (some ⟨gp,0,none⟩) pl 0):=by
  have:PLW w W1 (w.heap.size+1) n pc (some ⟨gp,0,none⟩) pl 0:=by
   rw [hW1]
   refine ⟨⟨[],0,?_,⟨by simp,by simp,by simp⟩,fun e _=>rfl,fun e v h=>by simp [Tlk] at h,fun e e' v v' _ h=>by simp [Tlk] at h⟩,by simp [go_sem],Qb (Qb (Qc _))⟩
   have h9:=heap_alloc_new (w.alloc (.cells #[.slice ad na ca,.map ra,.map rk,.slice ma nm cm,.slice (some ⟨gp,0,none⟩) n pc] 70)) (.map #[] 0)
   rw [World.size_alloc] at h9
   exact h9
  exact this
 rw [←hW1]
 clear hW1 hmm
 go_loopg [10] n (fun gk s10 wx=>∃i:Nat,i≤n∧gk=n-i∧s10=.int .i64 (i:Int)∧PLW w wx (w.heap.size+1) n pc (some ⟨gp,0,none⟩) pl i)
 case atStart=>exact ⟨0,by omega,rfl,rfl,HP1.out⟩
 case round =>
  clear HP1
  obtain ⟨i,hi,rfl,rfl,hP⟩:=hrel
  have HP:Hid (PLW w wr (w.heap.size+1) n pc (some ⟨gp,0,none⟩) pl i):=hP
  clear hP
  by_cases h1:i<n
  ·have i1:(i:Int)<(n:Int):=by omega
   have i0:(0:Int)≤(i:Int):=by omega
   have hil:i<pl.length:=by rw [←HNL.out];exact h1
   obtain ⟨g',eg,q0,q1,q2⟩:=(HT.out.kept HP.out.b) i hil
   cases eg
   obtain ⟨t,ht⟩:∃t,t=pl[i]:=⟨_,rfl⟩
   obtain ⟨x,y,z⟩:=t
   rw [←ht] at q0 q1 q2
   dsimp only at q0 q1 q2
   have hgt:pl.getD i (0,0,0)=(x,y,z):=by rw [List.getD_eq_getElem?_getD,List.getElem?_eq_getElem hil,ht];rfl
   have zg:gp<wr.heap.size:=bk q0
   obtain ⟨v0,st,W2,hrun,hg2,hz2,hown,hback⟩:=(HP.out.m.kept (w':=(wr.alloc (.cells #[.int .i64 x,.int .i64 y,.int .i64 z] 56)).alloc (.cells #[.int .i64 (i:Int)] 3)) (Qb (Qb (Qc _)))).entry (by omega) (fun g h=>by simp [Value.ownBlock] at h) (x,y,z) (i:Int)
   have hrun':(Instr.mapEntry 200 (.map (some (w.heap.size+1))) (.agg #[.int .i64 x,.int .i64 y,.int .i64 z])).run Tryz.prog ((wr.alloc (.cells #[.int .i64 x,.int .i64 y,.int .i64 z] 56)).alloc (.cells #[.int .i64 (i:Int)] 3))=.ok (.tuple #[v0,.int .i64 st]) W2:=hrun
   have hW2:W2.heap.size=wr.heap.size+2:=by rw [hz2];simp
   have hm1:w.heap.size+1<wr.heap.size:=by
    obtain ⟨ls,c,h,_⟩:=HP.out.m
    exact h.lt
   have hnw:W2.cell? ⟨wr.heap.size+1,0,none⟩=some (.int .i64 (i:Int)):=hg2.cell (by simp [go_sem]) (fun e=>by simp at e;omega)
   have HGL:Hid ((Gn pl i (x,y,z)).length≤300):=by
    have:=Gn_len pl i (x,y,z)
    have:(Gn pl i (x,y,z)).length≤300:=by omega
    exact this
   have HOW:Hid (W2.ownsRow (w.heap.size+2) 3 1 v0 (Gn pl i (x,y,z)).length ((Gn pl i (x,y,z)).map (Value.int .i64))):=hown
   have hp2:W2.cell? ⟨w.heap.size,4,none⟩=some (.slice (some ⟨gp,0,none⟩) n pc):=hg2.cell (Qa (Qb (Qb (Qc _))) HP.out.p) (fun e=>by simp at e)
   have hb2:Bl w W2:=by
    have k1:Bl w ((wr.alloc (.cells #[.int .i64 x,.int .i64 y,.int .i64 z] 56)).alloc (.cells #[.int .i64 (i:Int)] 3)):=Qb (Qb HP.out.b)
    exact k1.grown hg2 k1.size (fun r e=>by cases e;omega)
   have HBK:Hid (∀g cap W3,W2.grownBy W3 v0.ownBlock→W3.ownsRow (w.heap.size+2) 3 1 (.slice (some ⟨g,0,none⟩) ((Gn pl i (x,y,z)).length+1) cap) ((Gn pl i (x,y,z)).length+1) ((Gn pl i (x,y,z)).map (Value.int .i64)++[.int .i64 (i:Int)])→(v0.ownBlock=some g∨g=wr.heap.size+2) →
     ∃W4,(Instr.entryStore 200 (.map (some (w.heap.size+1))) (.int .i64 st) (.slice (some ⟨g,0,none⟩) ((Gn pl i (x,y,z)).length+1) cap)).run Tryz.prog W3=.ok () W4∧PLW w W4 (w.heap.size+1) n pc (some ⟨gp,0,none⟩) pl (i+1)):=fun g cap W3 u1 u2 u3=>by
    obtain ⟨W4,s1,s2,s3⟩:=hback (.slice (some ⟨g,0,none⟩) ((Gn pl i (x,y,z)).length+1) cap) W3 u1 u2 (u3.imp (fun q=>q.symm) (fun q=>by rw [q,hW2];rfl))
    have nb:∀r,v0.ownBlock=some r→w.heap.size+2≤r:=fun r e=>(hown.lt r e).1
    have k3:Bl w W3:=hb2.grown u1 hb2.size (fun r e=>by have:=nb r e;omega)
    refine ⟨W4,s1,?_,s2.cell (u1.cell hp2 (fun e=>by have:=nb _ e.symm;dsimp only at this;omega)) (fun e=>by simp at e),k3.grown s2 k3.size (fun r e=>by cases e;omega)⟩
    have e9:(fun j=>if j=(x,y,z) then Gn pl i (x,y,z)++[(i:Int)] else Gn pl i j)=Gn pl (i+1):=by
     funext j
     show _=if j=pl.getD i (0,0,0) then Gn pl i (pl.getD i (0,0,0))++[(i:Int)] else Gn pl i j
     rw [hgt]
    rw [e9] at s3
    exact s3
   obtain ⟨nG,hnG⟩:∃m,m=(Gn pl i (x,y,z)).length:=⟨_,rfl⟩
   obtain ⟨xG,hxG⟩:∃m,m=(Gn pl i (x,y,z)).map (Value.int .i64):=⟨_,rfl⟩
   rw [←hnG,←hxG] at HOW HBK
   rw [←hnG] at HGL
   clear hown hback hrun hg2 hz2 hgt ht hnG hxG hb2 hp2 hil
   go_wp2_with (at_builtin;refine wpList_append_lies _ rfl (.tmp 17) (.tmp 19) 22 rfl (w.heap.size+2) 3 i3 (.int .i64 0) 1 8 Tryz.underlying22 HI.out.1 HI.out.2.1 HI.out.2.2.1 HI.out.2.2.2 rfl (by decide) v0 nG xG rfl HOW.out ⟨wr.heap.size+1,0,none⟩ 1 1 [.int .i64 (i:Int)] rfl rfl (J9 _ hnw) (J6 _) (by decide) (by have:=HGL.out;unfold maxLen;omega) (by have:=HGL.out;omega) (by omega) W2.heap.size rfl ?grow)
   case grow =>
    intro g cap W3 hown3 hgrow hat hlt
    obtain ⟨W4,hst,hP4⟩:=HBK.out g cap W3 hgrow hown3 hat
    have HP4:Hid (PLW w W4 (w.heap.size+1) n pc (some ⟨gp,0,none⟩) pl (i+1)):=hP4
    clear hP4 hown3 hat hgrow
    go_wp2
    go_roundg (n-(i+1))
    case measure=>omega
    case rel=>exact ⟨i+1,by omega,rfl,by go_num,HP4.out⟩
  ·have i1:¬(i:Int)<(n:Int):=by omega
   obtain rfl:i=n:=by omega
   obtain ⟨W2,hW2⟩:∃W2,W2=wr.alloc (.cells #[.map (some (w.heap.size+1))] 200):=⟨_,rfl⟩
   have hbW:Bl wr W2:=by rw [hW2];exact Qb (Qc _)
   obtain ⟨ls,c,t1,t2,t3,t4,t5⟩:=HP.out.m.kept hbW
   have hbx:W2.cell? ⟨wr.heap.size,0,none⟩=some (.map (some (w.heap.size+1))):=by rw [hW2];simp [go_sem]
   have hgpw:gp<w.heap.size:=by
    obtain ⟨g',eg,q0,_⟩:=HT.out 0 (by rw [←HNL.out];omega)
    cases eg
    exact bk q0
   have hb2:Bl w W2:=Qe HP.out.b hbW
   have hrow:∀x∈ls,∃g q,x.2.1=.slice (some ⟨g,0,none⟩) (Gn pl i x.1).length q∧W2.ownsRow (w.heap.size+2) 3 1 x.2.1 (Gn pl i x.1).length ((Gn pl i x.1).map (Value.int .i64))∧Gn pl i x.1≠[]:=fun x hx=>by
    obtain ⟨a1,a2,_⟩:=t4 x.1 x.2.1 (Tlk_of t2 hx)
    obtain ⟨g,q,e⟩:=own_slice a1 (List.length_pos_iff.2 a2)
    exact ⟨g,q,e,a1,a2⟩
   have hRA:∀x∈ls,RowAt W2 gp i x:=fun x hx=>by
    obtain ⟨g,q,e,a1,a2⟩:=hrow x hx
    have hl:=List.length_pos_iff.2 a2
    obtain ⟨k,hk⟩:=Gn_nat pl i x.1 ((Gn pl i x.1)[0]) (List.getElem_mem hl)
    have hkm:=(Gn_mem pl x.1 i k).1 (by rw [←hk];exact List.getElem_mem hl)
    rw [e] at a1
    have hc:=a1.cellAt 0 (by omega)
    have hkl:k<pl.length:=by rw [←HNL.out];exact hkm.1
    obtain ⟨g',eg,q0,q1,q2⟩:=(HT.out.kept hb2) k hkl
    cases eg
    have e3:pl[k]=x.1:=by rw [←hkm.2,List.getD_eq_getElem?_getD,List.getElem?_eq_getElem hkl];rfl
    rw [e3] at q0 q1 q2
    refine ⟨g,_,q,k,e,hl,?_,hkm.1,q0,q1,q2⟩
    rw [hc,List.getElem?_map,List.getElem?_eq_getElem hl,hk]
    rfl
   have hlen:ls.length≤300:=by
    have h1:=sub_lenT (ls.map (fun x=>x.1)) pl t2.1 (fun e he=>by
     obtain ⟨x,hx,rfl⟩:=List.mem_map.1 he
     obtain ⟨g,q,e,a1,a2⟩:=hrow x hx
     have hl:=List.length_pos_iff.2 a2
     obtain ⟨k,hk⟩:=Gn_nat pl i x.1 ((Gn pl i x.1)[0]) (List.getElem_mem hl)
     have hkm:=(Gn_mem pl x.1 i k).1 (by rw [←hk];exact List.getElem_mem hl)
     have hkl:k<pl.length:=by rw [←HNL.out];exact hkm.1
     rw [←hkm.2,List.getD_eq_getElem?_getD,List.getElem?_eq_getElem hkl]
     exact List.getElem_mem hkl)
    rw [List.length_map,←HNL.out] at h1
    omega
   have hall:∀k,k<pl.length→∃x∈ls,x.1=pl.getD k (0,0,0):=fun k hk=>by
    have hm:=(Gn_mem pl (pl.getD k (0,0,0)) i k).2 ⟨by rw [HNL.out];exact hk,rfl⟩
    cases hl:Tlk ls (pl.getD k (0,0,0)) with
    | none =>
     rw [t3 _ hl] at hm
     cases hm
    | some v =>
     obtain ⟨x,hx,e,_⟩:=Tlk_some hl
     exact ⟨x,hx,e⟩
   have h0:ls≠[]:=fun e=>by
    obtain ⟨x,hx,_⟩:=hall 0 (by rw [←HNL.out];exact h0n)
    rw [e] at hx
    cases hx
   have CS:Hid (Calls Tryz.prog 141 #[.func (.func 175) #[] #[.pointer (some ⟨wr.heap.size,0,none⟩)],.func (.func 143) #[] #[.pointer (some ⟨w.heap.size,0,none⟩)]] W2 fun e w'=>SRows W2 w' ls e):=sortedRows_any W2 wr.heap.size (w.heap.size+1) c w.heap.size gp i pc ls t2 h0 hlen hbx t1 (Qa hbW HP.out.p) (Nat.lt_of_lt_of_le hgpw hb2.size) hRA
   have HLS:Hid ((∀x∈ls,∃g q,x.2.1=.slice (some ⟨g,0,none⟩) (Gn pl i x.1).length q∧W2.ownsRow (w.heap.size+2) 3 1 x.2.1 (Gn pl i x.1).length ((Gn pl i x.1).map (Value.int .i64))∧Gn pl i x.1≠[])∧(∀k,k<pl.length→∃x∈ls,x.1=pl.getD k (0,0,0))∧TGood ls c∧(∀e e' v v',e≠e'→Tlk ls e=some v→Tlk ls e'=some v'→v.ownBlock≠v'.ownBlock)∧Bl w W2):=⟨hrow,hall,t2,t5,hb2⟩
   have HW2:Hid (W2=wr.alloc (.cells #[.map (some (w.heap.size+1))] 200)):=hW2
   clear t1 t2 t3 t4 t5 hbx hrow hRA hlen hall h0 hbW hb2 hW2
   go_wp2_with (first|(go_at_call 142;refine (values_any _ _).mono ?_;rintro e w2 ⟨rfl,rfl⟩;rw [←HW2.out])|(go_at_call 141;refine CS.out.mono ?_;rintro e w3 ⟨g,q,vis,rfl,h1,h2,h3,h4,h5⟩;have HF:Hid (vis.Perm ls∧vis.Pairwise (fun x y=>¬ltT y.1 x.1)∧(∀i (hi:i<vis.length),w3.cell? ⟨g,i,none⟩=some vis[i].2.1)∧W2.heap.size≤g∧Bl W2 w3):=⟨h1,h2,h3,h4,h5⟩;clear h1 h2 h3 h4 h5))
   go_ret
   obtain ⟨f1,f2,f3,f4,f5⟩:=HF.out
   obtain ⟨l1,l2,l3,l4,l5⟩:=HLS.out
   have zm:=HP.out.b.size
   have hin:∀x∈vis,x∈ls:=fun x hx=>f1.mem_iff.1 hx
   have hnl:=HNL.out
   subst hnl
   have hnd:(vis.map (fun x=>x.1)).Nodup:=(f1.map (fun x=>x.1)).nodup_iff.2 l3.1
   refine ⟨g,vis.length,q,vis.map (fun x=>(x.1,blkOf x.2.1,capOf x.2.1)),by simp,⟨by simp,?_,?_,?_,?_,?_,?_,?_,Qe l5 f5⟩⟩
   ·rw [List.pairwise_map]
    have hn2:=List.pairwise_map.1 hnd
    exact (f2.and hn2).imp (fun {a b} h=>ltT_three h.1 (fun e=>h.2 e.symm))
   ·intro j hj
    have hj2:j<vis.length:=by simpa using hj
    obtain ⟨g1,q1,e1,_⟩:=l1 vis[j] (hin _ (List.getElem_mem hj2))
    rw [f3 j hj2,List.getElem_map]
    rw [e1]
    simp [blkOf,capOf]
   ·intro s hs
    obtain ⟨x,hx,rfl⟩:=List.mem_map.1 hs
    obtain ⟨g1,q1,e1,o1,_⟩:=l1 x (hin x hx)
    have o2:=Qs o1 f5
    rw [e1] at o2 ⊢
    exact ⟨o2.1,o2.2.imp id (fun ⟨g,cap,cur,h1,h2,h3⟩=>⟨g,cap,cur,h1,Nat.le_trans (by omega) h2,h3⟩)⟩
   ·intro s hs
    obtain ⟨x,hx,rfl⟩:=List.mem_map.1 hs
    obtain ⟨g1,q1,e1,_,o2⟩:=l1 x (hin x hx)
    exact o2
   ·intro k hk
    obtain ⟨x,hx,e1⟩:=l2 k hk
    exact ⟨_,List.mem_map.2 ⟨x,f1.mem_iff.2 hx,rfl⟩,e1⟩
   ·rw [List.pairwise_map]
    have hn2:=List.pairwise_map.1 hnd
    refine hn2.imp_of_mem (fun {a b} ha hb h=>?_)
    have k1:=l4 a.1 b.1 a.2.1 b.2.1 h (Tlk_of l3 (hin a ha)) (Tlk_of l3 (hin b hb))
    obtain ⟨g1,q1,e1,_⟩:=l1 a (hin a ha)
    obtain ⟨g2,q2,e2,_⟩:=l1 b (hin b hb)
    rw [e1,e2] at k1 ⊢
    simpa [Value.ownBlock,blkOf] using k1
   ·intro s hs
    obtain ⟨x,hx,rfl⟩:=List.mem_map.1 hs
    obtain ⟨g1,q1,e1,o1,o2⟩:=l1 x (hin x hx)
    rw [e1] at o1 ⊢
    have z1:=(o1.lt g1 rfl).2
    simp only [blkOf]
    omega
end Go.Proofs.YtgpjaecgkkgehaaGreatDoor
namespace Go.Proofs.YtgpjaecgkkgehaaGreatDoor
open Go.RowKit
def rowS (R:List ((Int×Int×Int)×Value)):List Value:=R.flatMap fun s=>[.int .i64 s.1.1,.int .i64 s.1.2.1,.int .i64 s.1.2.2,s.2]
theorem rowS_add (l m:List ((Int×Int×Int)×Value)):rowS (l++m)=rowS l++rowS m:=by simp [rowS]
theorem rowS_len (R:List ((Int×Int×Int)×Value)):(rowS R).length=R.length*4:=by
 induction R with
 | nil=>rfl
 | cons s r ih =>
  have:rowS (s :: r)=[Value.int .i64 s.1.1,.int .i64 s.1.2.1,.int .i64 s.1.2.2,s.2]++rowS r:=by simp [rowS]
  rw [this,List.length_append,ih]
  simp
  omega
theorem rowS_at:∀(R:List ((Int×Int×Int)×Value)) (i:Nat) (h:i<R.length),(rowS R)[i*4]?=some (.int .i64 R[i].1.1)∧(rowS R)[i*4+1]?=some (.int .i64 R[i].1.2.1)∧(rowS R)[i*4+2]?=some (.int .i64 R[i].1.2.2)∧(rowS R)[i*4+3]?=some R[i].2
 | s :: r,0,_=>by simp [rowS]
 | s :: r,i+1,h=>by
  have ih:=rowS_at r i (by simpa using h)
  have e:rowS (s :: r)=[Value.int .i64 s.1.1,.int .i64 s.1.2.1,.int .i64 s.1.2.2,s.2]++rowS r:=by simp [rowS]
  have f:∀k,(rowS (s :: r))[(i+1)*4+k]?=(rowS r)[i*4+k]?:=fun k=>by
   rw [e,List.getElem?_append_right (by simp;omega)]
   congr 1
   simp
   omega
  have f0:=f 0
  rw [Nat.add_zero,Nat.add_zero] at f0
  simp only [List.getElem_cons_succ]
  exact ⟨f0.trans ih.1,(f 1).trans ih.2.1,(f 2).trans ih.2.2.1,(f 3).trans ih.2.2.2⟩
theorem rowS_set:∀(R:List ((Int×Int×Int)×Value)) (i:Nat) (t:Int×Int×Int) (u:Value),i<R.length→((((rowS R).set (i*4) (.int .i64 t.1)).set (i*4+1) (.int .i64 t.2.1)).set (i*4+2) (.int .i64 t.2.2)).set (i*4+3) u=rowS (R.set i (t,u))
 | s :: r,0,t,u,_=>by simp [rowS]
 | s :: r,i+1,t,u,h=>by
  have ih:=rowS_set r i t u (by simpa using h)
  have e:rowS (s :: r)=[Value.int .i64 s.1.1,.int .i64 s.1.2.1,.int .i64 s.1.2.2,s.2]++rowS r:=by simp [rowS]
  have e2:rowS ((s :: r).set (i+1) (t,u))=[Value.int .i64 s.1.1,.int .i64 s.1.2.1,.int .i64 s.1.2.2,s.2]++rowS (r.set i (t,u)):=by simp [rowS]
  have st:∀(k:Nat) (x:Value) (l:List Value),([Value.int .i64 s.1.1,.int .i64 s.1.2.1,.int .i64 s.1.2.2,s.2]++l).set (4+k) x=[Value.int .i64 s.1.1,.int .i64 s.1.2.1,.int .i64 s.1.2.2,s.2]++l.set k x:=fun k x l=>by
   rw [Nat.add_comm]
   rfl
  rw [e2,←ih,e,show (i+1)*4=4+i*4 by omega,st,show 4+i*4+1=4+(i*4+1) by omega,st,show 4+i*4+2=4+(i*4+2) by omega,st,show 4+i*4+3=4+(i*4+3) by omega,st]
theorem set_same {l:List Value} {n:Nat} {a:Value} (h:l[n]?=some a):l.set n a=l:=by
 apply List.ext_getElem?
 intro m
 rw [List.getElem?_set]
 by_cases e:n=m
 ·subst e
  have hl:n<l.length:=by
   rcases Nat.lt_or_ge n l.length with q|q
   ·exact q
   ·rw [List.getElem?_eq_none q] at h
    cases h
  rw [if_pos rfl,if_pos hl,h]
 ·rw [if_neg e]
theorem rowS_set3 (R:List ((Int×Int×Int)×Value)) (i:Nat) (u:Value) (h:i<R.length):(rowS R).set (i*4+3) u=rowS (R.set i (R[i].1,u)):=by
 rw [←rowS_set R i R[i].1 u h]
 obtain ⟨h0,h1,h2,_⟩:=rowS_at R i h
 rw [set_same h0,set_same h1,set_same h2]
def TrisAt (w:World) (v:Value) (l:List (Int×Int×Int)):Prop := ∃a c,v=.slice a l.length c∧TRow w a l
theorem TrisAt.kept {w w':World} {v:Value} {l:List (Int×Int×Int)} (h:TrisAt w v l) (hb:Bl w w'):TrisAt w' v l:=by
 obtain ⟨a,c,e,ht⟩:=h
 exact ⟨a,c,e,ht.kept hb⟩
theorem TRow.grownN {w w':World} {pa:Option Addr} {l:List (Int×Int×Int)} {row:Option Nat} (h:TRow w pa l) (hg:w.grownBy w' row) (hn:∀g,pa=some ⟨g,0,none⟩→some g≠row):TRow w' pa l:=fun i hi=>by
 obtain ⟨g,e,c0,c1,c2⟩:=h i hi
 have hne:=hn g e
 exact ⟨g,e,hg.cell c0 hne,hg.cell c1 hne,hg.cell c2 hne⟩
theorem TrisAt.grown {w w':World} {v:Value} {l:List (Int×Int×Int)} {row:Option Nat} (h:TrisAt w v l) (hg:w.grownBy w' row) (hn:∀g,v.ownBlock=some g→some g≠row):TrisAt w' v l:=by
 obtain ⟨a,c,rfl,ht⟩:=h
 exact ⟨a,c,rfl,ht.grownN hg fun g e=>hn g (by rw [e];rfl)⟩
structure HSt (w0 wx:World) (B:Nat) (p0 p1 p2 p3 p4 v:Value) (R:List ((Int×Int×Int)×Value)) (S:List ((Int×Int×Int)×List (Int×Int×Int))):Prop where
 c0:wx.cell? ⟨B,0,none⟩=some p0
 c1:wx.cell? ⟨B,1,none⟩=some p1
 c2:wx.cell? ⟨B,2,none⟩=some p2
 c3:wx.cell? ⟨B,3,none⟩=some p3
 c4:wx.cell? ⟨B,4,none⟩=some p4
 c5:wx.cell? ⟨B,5,none⟩=some v
 f5:wx.frozen? ⟨B,5,none⟩=false
 own:wx.ownsRow (B+1) 102 4 v R.length (rowS R)
 apart:∀s∈R,∀g,s.2.ownBlock=some g→B<g∧g<wx.heap.size∧v.ownBlock≠some g
 len:R.length=S.length
 hold:∀i (h:i<R.length) (h':i<S.length),R[i].1=S[i].1∧TrisAt wx R[i].2 S[i].2
 low:w0.heap.size≤B
 bel:Bl w0 wx
theorem HSt.lt {w0 wx:World} {B:Nat} {p0 p1 p2 p3 p4 v:Value} {R:List ((Int×Int×Int)×Value)} {S:List ((Int×Int×Int)×List (Int×Int×Int))} (h:HSt w0 wx B p0 p1 p2 p3 p4 v R S):B<wx.heap.size:=bk h.c0
theorem HSt.kept {w0 wx w':World} {B:Nat} {p0 p1 p2 p3 p4 v:Value} {R:List ((Int×Int×Int)×Value)} {S:List ((Int×Int×Int)×List (Int×Int×Int))} (h:HSt w0 wx B p0 p1 p2 p3 p4 v R S) (hb:Bl wx w'):HSt w0 w' B p0 p1 p2 p3 p4 v R S :=
 ⟨Qa hb h.c0,Qa hb h.c1,Qa hb h.c2,Qa hb h.c3,Qa hb h.c4,Qa hb h.c5,(hb.frozen h.lt).trans h.f5,Qs h.own hb,fun s hs g hg=>by
  have:=h.apart s hs g hg
  exact ⟨this.1,Nat.lt_of_lt_of_le this.2.1 hb.size,this.2.2⟩,h.len,fun i hi hi'=>⟨(h.hold i hi hi').1,(h.hold i hi hi').2.kept hb⟩,h.low,Qe h.bel hb⟩
theorem HSt.more {w0 wx w2:World} {B:Nat} {p0 p1 p2 p3 p4 v v':Value} {R:List ((Int×Int×Int)×Value)} {S:List ((Int×Int×Int)×List (Int×Int×Int))} (h:HSt w0 wx B p0 p1 p2 p3 p4 v R S) (hg:wx.grownBy w2 v.ownBlock) (ho:w2.ownsRow (B+1) 102 4 v' (R.length+1) (rowS R++[.int .i64 0,.int .i64 0,.int .i64 0,.slice none 0 0])) (hv:v'.ownBlock=v.ownBlock∨v'.ownBlock=some wx.heap.size) :
  HSt w0 (w2.setCell ⟨B,5,none⟩ v') B p0 p1 p2 p3 p4 v' (R++[((0,0,0),.slice none 0 0)]) (S++[((0,0,0),[])]):=by
 have hn:some B≠v.ownBlock:=fun e=>by
  have:=Q7 h.own B e.symm
  omega
 have hn':v'.ownBlock≠some B:=fun e=>by
  have:=Q7 ho B e
  omega
 have g1:=h.bel.grown hg h.bel.size (fun k hk=>by have:=Q7 h.own k hk;have:=h.low;omega)
 have gB:=Qm w2 B 5 v'
 have c5:=hg.cell h.c5 hn
 have f5:w2.frozen? ⟨B,5,none⟩=false:=(World.frozen?_of_block (a:=⟨B,5,none⟩) (hg.block B h.lt hn)).trans h.f5
 refine ⟨Qp (hg.cell h.c0 hn) (by omega),Qp (hg.cell h.c1 hn) (by omega),Qp (hg.cell h.c2 hn) (by omega),Qp (hg.cell h.c3 hn) (by omega),Qp (hg.cell h.c4 hn) (by omega),Q8 c5,by simp [go_sem,f5],?_,?_,by simp [h.len],?_,h.low,g1.setCell (p:=⟨B,5,none⟩) h.low _⟩
 ·rw [rowS_add,List.length_append,List.length_singleton]
  exact ho.kept gB (Or.inr hn')
 ·intro s hs g hgb
  rcases List.mem_append.1 hs with hs|hs
  ·obtain ⟨a1,a2,a3⟩:=h.apart s hs g hgb
   refine ⟨a1,Nat.lt_of_lt_of_le a2 (Nat.le_trans hg.size gB.size),fun e=>?_⟩
   rcases hv with e2|e2
   ·exact a3 (e2 ▸ e)
   ·rw [e2] at e
    cases e
    omega
  ·simp at hs
   subst hs
   simp [Value.ownBlock] at hgb
 ·intro i hi hi'
  by_cases hiR:i<R.length
  ·have hiS:i<S.length:=by rw [←h.len];exact hiR
   obtain ⟨e1,e2⟩:=h.hold i hiR hiS
   have q1:(R++[((0,0,0),Value.slice none 0 0)])[i]=R[i]:=List.getElem_append_left hiR
   have q2:(S++[((0,0,0),[])])[i]=S[i]:=List.getElem_append_left hiS
   rw [q1,q2]
   refine ⟨e1,(e2.grown hg fun g e=>?_).grown gB fun g e=>?_⟩
   ·exact fun e3=>(h.apart _ (List.getElem_mem hiR) g e).2.2 e3.symm
   ·have:=(h.apart _ (List.getElem_mem hiR) g e).1
    intro e3
    cases e3
    omega
  ·have e1:i=R.length:=by simp at hi;omega
   have e2:i=S.length:=by rw [e1,h.len]
   have q1:(R++[((0,0,0),Value.slice none 0 0)])[i]=((0,0,0),Value.slice none 0 0):=by
    rw [List.getElem_append_right (by omega)]
    simp [e1]
   have q2:(S++[((0,0,0),[])])[i]=((0,0,0),[]):=by
    rw [List.getElem_append_right (by omega)]
    simp [e2]
   rw [q1,q2]
   exact ⟨rfl,none,0,rfl,fun i hi=>by simp at hi⟩
theorem HSt.put {w0 wx w2:World} {B gv cv:Nat} {p0 p1 p2 p3 p4:Value} {R:List ((Int×Int×Int)×Value)} {S:List ((Int×Int×Int)×List (Int×Int×Int))} (h:HSt w0 wx B p0 p1 p2 p3 p4 (.slice (some ⟨gv,0,none⟩) R.length cv) R S) {i:Nat} (_hi:i<R.length) {t:Int×Int×Int} {u:Value} {l:List (Int×Int×Int)}
  (hg:wx.grownBy w2 (some gv)) (ho:w2.ownsRow (B+1) 102 4 (.slice (some ⟨gv,0,none⟩) R.length cv) R.length (rowS (R.set i (t,u)))) (hu:∀g,u.ownBlock=some g→B<g∧g<wx.heap.size∧g≠gv) (hT:TrisAt wx u l) :
  HSt w0 w2 B p0 p1 p2 p3 p4 (.slice (some ⟨gv,0,none⟩) R.length cv) (R.set i (t,u)) (S.set i (t,l)):=by
 have hB:B+1≤gv:=Q7 h.own gv rfl
 have hn:some B≠some gv:=fun e=>by
  cases e
  omega
 refine ⟨hg.cell h.c0 hn,hg.cell h.c1 hn,hg.cell h.c2 hn,hg.cell h.c3 hn,hg.cell h.c4 hn,hg.cell h.c5 hn,(World.frozen?_of_block (a:=⟨B,5,none⟩) (hg.block B h.lt hn)).trans h.f5,by rw [List.length_set];exact ho,?_,by simp [h.len],?_,h.low,h.bel.grown hg h.bel.size (fun k hk=>by cases hk;have:=h.low;omega)⟩
 ·intro s hs g hgb
  rcases List.mem_or_eq_of_mem_set hs with hs|hs
  ·obtain ⟨a1,a2,a3⟩:=h.apart s hs g hgb
   exact ⟨a1,Nat.lt_of_lt_of_le a2 hg.size,a3⟩
  ·subst hs
   obtain ⟨a1,a2,a3⟩:=hu g hgb
   refine ⟨a1,Nat.lt_of_lt_of_le a2 hg.size,fun e=>a3 ?_⟩
   cases e
   rfl
 ·intro j hj hj'
  rw [List.getElem_set,List.getElem_set]
  by_cases e:i=j
  ·rw [if_pos e,if_pos e]
   exact ⟨rfl,hT.grown hg fun g eg e2=>(hu g eg).2.2 (by cases e2;rfl)⟩
  ·rw [if_neg e,if_neg e]
   have hjR:j<R.length:=by simpa using hj
   have hjS:j<S.length:=by simpa using hj'
   obtain ⟨e1,e2⟩:=h.hold j hjR hjS
   exact ⟨e1,e2.grown hg fun g eg e3=>(h.apart _ (List.getElem_mem hjR) g eg).2.2 (by rw [e3];rfl)⟩
theorem insN_at {h:Nat→Int} {i:Nat}:∀(l:List Nat) (n:Nat),n≤l.length→(∀j (hj:j<l.length),j<n→h l[j]<h i)→(∀hn:n<l.length,¬h l[n]<h i)→insN h i l=l.take n++i :: l.drop n
 | [],n,hn,_,_=>by
  have:n=0:=by simpa using hn
  subst this
  rfl
 | a :: r,0,_,_,h2=>by
  have:=h2 (by simp)
  simp at this
  unfold insN
  rw [if_neg (by omega)]
  rfl
 | a :: r,n+1,hn,h1,h2=>by
  have h0:=h1 0 (by simp) (by omega)
  simp at h0
  unfold insN
  rw [if_pos h0,insN_at r n (by simpa using hn) (fun j hj hjn=>h1 (j+1) (Nat.succ_lt_succ hj) (by omega)) (fun hn'=>h2 (Nat.succ_lt_succ hn'))]
  rfl
theorem insS_new {h:Nat→Int} {i:Nat} {at_:Int×Int×Int}:∀(S:List ((Int×Int×Int)×List Nat)) (k:Nat),k≤S.length→(∀j (hj:j<S.length),j<k→ltB S[j].1 at_=true)→(∀hk:k<S.length,ltB S[k].1 at_=false∧S[k].1≠at_)→insS h i at_ S=S.take k++(at_,[i]) :: S.drop k
 | [],k,hk,_,_=>by
  have:k=0:=by simpa using hk
  subst this
  rfl
 | a :: r,0,_,_,h2=>by
  have:=h2 (by simp)
  simp at this
  unfold insS
  rw [if_neg (by simp [this.1]),if_neg this.2]
  rfl
 | a :: r,k+1,hk,h1,h2=>by
  have h0:=h1 0 (by simp) (by omega)
  simp at h0
  unfold insS
  rw [if_pos h0,insS_new r k (by simpa using hk) (fun j hj hjn=>h1 (j+1) (Nat.succ_lt_succ hj) (by omega)) (fun hk'=>h2 (Nat.succ_lt_succ hk'))]
  rfl
theorem insS_old {h:Nat→Int} {i:Nat} {at_:Int×Int×Int}:∀(S:List ((Int×Int×Int)×List Nat)) (k:Nat) (hk:k<S.length),(∀j (hj:j<S.length),j<k→ltB S[j].1 at_=true)→S[k].1=at_→insS h i at_ S=S.set k (at_,insN h i S[k].2)
 | a :: r,0,_,_,h2=>by
  simp at h2
  have hn:¬ltB a.1 at_=true:=fun e=>J3 at_ (by rw [←h2] at e ⊢;exact ltB_iff.1 e)
  unfold insS
  rw [if_neg hn,if_pos h2]
  simp [h2]
 | a :: r,k+1,hk,h1,h2=>by
  have h0:=h1 0 (by simp) (by omega)
  simp at h0
  unfold insS
  rw [if_pos h0,insS_old r k (by simpa using hk) (fun j hj hjn=>h1 (j+1) (Nat.succ_lt_succ hj) (by omega)) h2]
  rfl
theorem shift_step {α:Type} (S:List α) (y : α) (j:Nat) (hj:j+1≤S.length):(S.take (j+1)++y :: S.drop (j+1)).set (j+1) (S[j]'(by omega))=S.take j++(S[j]'(by omega)) :: S.drop j:=by
 have e1:(S.take (j+1)).length=j+1:=by rw [List.length_take];omega
 have e2:S.drop j=S[j]'(by omega) :: S.drop (j+1):=List.drop_eq_getElem_cons (by omega)
 have e3:S.take (j+1)=S.take j++[S[j]'(by omega)]:=by
  rw [List.take_add_one,List.getElem?_eq_getElem (by omega)]
  rfl
 rw [List.set_append_right _ _ (by omega),e1,Nat.sub_self,List.set_cons_zero,←e2,e3,List.append_assoc]
 rfl
theorem shift_put {α:Type} (S:List α) (x y : α) (k:Nat) (hk:k≤S.length):(S.take k++y :: S.drop k).set k x=S.take k++x :: S.drop k:=by
 have e1:(S.take k).length=k:=by rw [List.length_take];omega
 rw [List.set_append_right _ _ (by omega),e1,Nat.sub_self,List.set_cons_zero]
theorem shift_start {α:Type} (S:List α) (y : α):S++[y]=S.take S.length++y :: S.drop S.length:=by simp
theorem shift_before {α:Type} (S:List α) (y : α) (j:Nat) (hj:j+1≤S.length):(S.take (j+1)++y :: S.drop (j+1))[j]?=some (S[j]'(by omega)):=by
 rw [List.getElem?_append_left (by rw [List.length_take];omega),List.getElem?_take_of_lt (by omega),List.getElem?_eq_getElem (by omega)]
def flatM (M:Nat→M6) (n:Nat):List Value:=(List.range n).flatMap fun i=>[.int .i64 (M i).1,.int .i64 (M i).2.1,.int .i64 (M i).2.2.1,.int .i64 (M i).2.2.2.1,.int .i64 (M i).2.2.2.2.1,.int .i64 (M i).2.2.2.2.2]
theorem flatM_succ (M:Nat→M6) (n:Nat):flatM M (n+1)=flatM M n++[.int .i64 (M n).1,.int .i64 (M n).2.1,.int .i64 (M n).2.2.1,.int .i64 (M n).2.2.2.1,.int .i64 (M n).2.2.2.2.1,.int .i64 (M n).2.2.2.2.2]:=by
 unfold flatM
 rw [List.range_succ,List.flatMap_append]
 simp
theorem flatM_len (M:Nat→M6):∀n,(flatM M n).length=n*6
 | 0=>rfl
 | n+1=>by
  rw [flatM_succ,List.length_append,flatM_len M n]
  simp
  omega
theorem flatM_at (M:Nat→M6):∀(n i:Nat),i<n→(flatM M n)[i*6]?=some (.int .i64 (M i).1)∧(flatM M n)[i*6+1]?=some (.int .i64 (M i).2.1)∧(flatM M n)[i*6+2]?=some (.int .i64 (M i).2.2.1)∧(flatM M n)[i*6+3]?=some (.int .i64 (M i).2.2.2.1)∧(flatM M n)[i*6+4]?=some (.int .i64 (M i).2.2.2.2.1)∧(flatM M n)[i*6+5]?=some (.int .i64 (M i).2.2.2.2.2)
 | 0,i,h=>by omega
 | n+1,i,h=>by
  have hl:=flatM_len M n
  rw [flatM_succ]
  by_cases e:i=n
  ·subst e
   refine ⟨?_,?_,?_,?_,?_,?_⟩
   all_goals
    rw [List.getElem?_append_right (by omega)]
    simp [hl]
  ·obtain ⟨h0,h1,h2,h3,h4,h5⟩:=flatM_at M n i (by omega)
   refine ⟨?_,?_,?_,?_,?_,?_⟩
   all_goals
    rw [List.getElem?_append_left (by omega)]
    assumption
theorem MRow.flat {w:World} {g n:Nat} {M:Nat→M6} (h:MRow w g n M):∀j u,(flatM M n)[j]?=some u→w.cell? ((⟨g,0,none⟩:Addr).add j)=some u:=fun j u hu=>by
 have hj:j<n*6:=by
  rcases Nat.lt_or_ge j (n*6) with q|q
  ·exact q
  ·rw [List.getElem?_eq_none (by rw [flatM_len];exact q)] at hu
   cases hu
 have hi:j / 6<n:=by omega
 obtain ⟨⟨c0,c1,c2,c3,c4,c5⟩,_⟩:=h (j / 6) hi
 obtain ⟨f0,f1,f2,f3,f4,f5⟩:=flatM_at M n (j / 6) hi
 have ej:(⟨g,0,none⟩:Addr).add j=⟨g,j,none⟩:=by simp [Addr.add]<;>omega
 rw [ej]
 have:j % 6=0∨j % 6=1∨j % 6=2∨j % 6=3∨j % 6=4∨j % 6=5:=by omega
 rcases this with e|e|e|e|e|e
 ·have q:j=j / 6*6:=by omega
  rw [q] at hu ⊢
  rw [f0] at hu
  rw [c0]
  exact hu
 ·have q:j=j / 6*6+1:=by omega
  rw [q] at hu ⊢
  rw [f1] at hu
  rw [c1]
  exact hu
 ·have q:j=j / 6*6+2:=by omega
  rw [q] at hu ⊢
  rw [f2] at hu
  rw [c2]
  exact hu
 ·have q:j=j / 6*6+3:=by omega
  rw [q] at hu ⊢
  rw [f3] at hu
  rw [c3]
  exact hu
 ·have q:j=j / 6*6+4:=by omega
  rw [q] at hu ⊢
  rw [f4] at hu
  rw [c4]
  exact hu
 ·have q:j=j / 6*6+5:=by omega
  rw [q] at hu ⊢
  rw [f5] at hu
  rw [c5]
  exact hu
theorem own_maps {w:World} {base g n c:Nat} {M:Nat→M6} (h:w.ownsRow base 89 6 (.slice (some ⟨g,0,none⟩) n c) n (flatM M n)):MRow w g n M:=fun i hi=>by
 obtain ⟨f0,f1,f2,f3,f4,f5⟩:=flatM_at M n i hi
 exact ⟨⟨(h.cellAt _ (by omega)).trans f0,(h.cellAt _ (by omega)).trans f1,(h.cellAt _ (by omega)).trans f2,(h.cellAt _ (by omega)).trans f3,(h.cellAt _ (by omega)).trans f4,(h.cellAt _ (by omega)).trans f5⟩,h.frozenAt _,h.frozenAt _,h.frozenAt _,h.frozenAt _,h.frozenAt _,h.frozenAt _⟩
end Go.Proofs.YtgpjaecgkkgehaaGreatDoor
namespace Go.Proofs.YtgpjaecgkkgehaaGreatDoor
open Go.RowKit Go.ChangeMaps
def hpN (pl:Nat→Int×Int×Int) (h:Nat→Int):Nat→List ((Int×Int×Int)×List Nat)
 | 0=>[]
 | i+1=>insS h i (pl i) (hpN pl h i)
theorem insS_len (h:Nat→Int) (i:Nat) (a:Int×Int×Int):∀S:List ((Int×Int×Int)×List Nat),(insS h i a S).length≤S.length+1
 | []=>by simp [insS]
 | s :: r=>by
  have:=insS_len h i a r
  unfold insS
  repeat' split
  all_goals (simp only [List.length_cons];omega)
theorem hpN_len (pl:Nat→Int×Int×Int) (h:Nat→Int):∀i,(hpN pl h i).length≤i
 | 0=>by simp [hpN]
 | i+1=>by
  have:=hpN_len pl h i
  have:=insS_len h i (pl i) (hpN pl h i)
  unfold hpN
  omega
def tg (L:List (Int×Int×Int)) (j:Nat):Int×Int×Int:=L.getD j (0,0,0)
def trS (L:List (Int×Int×Int)) (S:List ((Int×Int×Int)×List Nat)):List ((Int×Int×Int)×List (Int×Int×Int)):=S.map fun s=>(s.1,s.2.map (tg L))
def hvs (hs:List Int) (k:Nat):Int:=hs.getD k 0
def mvP (L:List (Int×Int×Int)) (M:Nat→M6) (i:Nat):Int×Int×Int:=mvt (M i) (tg L i)
theorem own_sliceW {w:World} {base e k n:Nat} {v:Value} {xs:List Value} (h:w.ownsRow base e k v n xs) (hn:0<n):∃g q,v=.slice (some ⟨g,0,none⟩) n q:=by
 rcases h.2 with ⟨_,h0⟩|⟨g,cap,cur,hv,_⟩
 ·omega
 ·exact ⟨g,cap,hv⟩
theorem box3 {w w8:World} (hb:Below (w.drew.alloc (.cells #[.int .i64 0,.int .i64 0,.int .i64 0] 56)).heap.size (w.drew.alloc (.cells #[.int .i64 0,.int .i64 0,.int .i64 0] 56)) w8):w8.cell? ⟨w.heap.size,0,none⟩=some (.int .i64 0)∧w8.cell? ⟨w.heap.size,1,none⟩=some (.int .i64 0)∧w8.cell? ⟨w.heap.size,2,none⟩=some (.int .i64 0)∧w8.frozen? ⟨w.heap.size,0,none⟩=false∧w8.frozen? ⟨w.heap.size,1,none⟩=false∧w8.frozen? ⟨w.heap.size,2,none⟩=false :=
 ⟨Qa hb (by simp [go_sem]),Qa hb (by simp [go_sem]),Qa hb (by simp [go_sem]),(Below.frozen hb (by simp)).trans (by simp [go_sem]),(Below.frozen hb (by simp)).trans (by simp [go_sem]),(Below.frozen hb (by simp)).trans (by simp [go_sem])⟩
theorem box3k {w w8:World} {G:Prop} (hb:Below (w.drew.alloc (.cells #[.int .i64 0,.int .i64 0,.int .i64 0] 56)).heap.size (w.drew.alloc (.cells #[.int .i64 0,.int .i64 0,.int .i64 0] 56)) w8) (h:(w8.cell? ⟨w.heap.size,0,none⟩=some (.int .i64 0)∧w8.cell? ⟨w.heap.size,1,none⟩=some (.int .i64 0)∧w8.cell? ⟨w.heap.size,2,none⟩=some (.int .i64 0)∧w8.frozen? ⟨w.heap.size,0,none⟩=false∧w8.frozen? ⟨w.heap.size,1,none⟩=false∧w8.frozen? ⟨w.heap.size,2,none⟩=false)→G):G:=h (box3 hb)
def Past (S:List ((Int×Int×Int)×List Nat)) (P:Int×Int×Int) (k:Nat):Prop := ∀j (hj:j<S.length),j<k→ltB S[j].1 P=true
def Found (S:List ((Int×Int×Int)×List Nat)) (P:Int×Int×Int) (k:Nat):Prop:=Past S P k∧∀hk:k<S.length,ltB S[k].1 P=false
theorem past_next {S:List ((Int×Int×Int)×List Nat)} {P:Int×Int×Int} {k:Nat} (h:Past S P k) (hk:k<S.length) (hl:ltB S[k].1 P=true):Past S P (k+1):=fun j hj hjk=>by
 by_cases e:j=k
 ·subst e
  exact hl
 ·exact h j hj (by omega)
theorem own_any {w:World} {base e k n:Nat} {v:Value} {xs:List Value} (h:w.ownsRow base e k v n xs):∃a c,v=.slice a n c:=by
 rcases h.2 with ⟨e1,e2⟩|⟨g,cap,cur,hv,_⟩
 ·subst e2
  exact ⟨none,0,e1⟩
 ·exact ⟨_,cap,hv⟩
theorem own_some2 {w:World} {base e k n m c:Nat} {a:Option Addr} {xs:List Value} (h:w.ownsRow base e k (.slice a m c) n xs) (h0:0<n):∃g,a=some ⟨g,0,none⟩:=by
 obtain ⟨g,q,e⟩:=own_sliceW h h0
 cases e
 exact ⟨g,rfl⟩
theorem HSt.cells {w0 wx:World} {B gv r cv:Nat} {p0 p1 p2 p3 p4:Value} {R:List ((Int×Int×Int)×Value)} {S:List ((Int×Int×Int)×List (Int×Int×Int))} (h:HSt w0 wx B p0 p1 p2 p3 p4 (.slice (some ⟨gv,0,none⟩) r cv) R S) (hr:r=R.length) {k:Nat} (hk:k<R.length):wx.cell? ⟨gv,k*4,none⟩=some (.int .i64 R[k].1.1)∧wx.cell? ⟨gv,k*4+1,none⟩=some (.int .i64 R[k].1.2.1)∧wx.cell? ⟨gv,k*4+2,none⟩=some (.int .i64 R[k].1.2.2)∧wx.cell? ⟨gv,k*4+3,none⟩=some R[k].2:=by
 obtain ⟨e0,e1,e2,e3⟩:=rowS_at R k hk
 have hl:=rowS_len R
 subst hr
 have ho:=h.own
 exact ⟨(ho.cellAt (k*4) (by omega)).trans e0,(ho.cellAt (k*4+1) (by omega)).trans e1,(ho.cellAt (k*4+2) (by omega)).trans e2,(ho.cellAt (k*4+3) (by omega)).trans e3⟩
theorem neq85 (x y k X Y K:Int) (w:World) :
  (binOp .neq 56 (.agg #[.int .i64 x,.int .i64 y,.int .i64 k]) (.agg #[.int .i64 X,.int .i64 Y,.int .i64 K])).run Tryz.prog w=.ok (.bool (!sameT x y k X Y K)) w:=by
 by_cases h1:x=X
 ·subst h1
  by_cases h2:y=Y
  ·subst h2
   by_cases h3:k=K
   ·subst h3
    simp [go_sem,sameT]
   ·have e:(k == K)=false:=by simpa using h3
    simp [go_sem,sameT,e,h3]
  ·have e:(y == Y)=false:=by simpa using h2
   simp [go_sem,sameT,e,h2]
 ·have e:(x == X)=false:=by simpa using h1
  simp [go_sem,sameT,e,h1]
def withP (S:List ((Int×Int×Int)×List Nat)) (P:Int×Int×Int) (k:Nat):List ((Int×Int×Int)×List Nat):=if decide (¬∃h:k<S.length,S[k].1=P)=true then S.take k++(P,[]) :: S.drop k else S
def ShiftS (w4 wx:World) (B _r:Nat) (v:Value) (R:List ((Int×Int×Int)×Value)) (T:List ((Int×Int×Int)×List (Int×Int×Int))) (A:Nat) (P0 P1 P2:Int) (p0 p1 p2 p3 p4:Value) (j:Nat):Prop := ∃y z,HSt w4 wx B p0 p1 p2 p3 p4 v (R.take j++y :: R.drop j) (T.take j++z :: T.drop j)∧wx.cell? ⟨A,0,none⟩=some (.int .i64 P0)∧wx.cell? ⟨A,1,none⟩=some (.int .i64 P1)∧wx.cell? ⟨A,2,none⟩=some (.int .i64 P2)
theorem HSt.put4 {w0 wx:World} {B gv cv r:Nat} {p0 p1 p2 p3 p4:Value} {R:List ((Int×Int×Int)×Value)} {S:List ((Int×Int×Int)×List (Int×Int×Int))} (h:HSt w0 wx B p0 p1 p2 p3 p4 (.slice (some ⟨gv,0,none⟩) r cv) R S) (hr:r=R.length) {i:Nat} (hi:i<R.length) (t:Int×Int×Int) (u:Value) (l:List (Int×Int×Int)) (hu:∀g,u.ownBlock=some g→B<g∧g<wx.heap.size∧g≠gv) (hT:TrisAt wx u l) :
  HSt w0 ((((wx.setCell ⟨gv,i*4,none⟩ (.int .i64 t.1)).setCell ⟨gv,i*4+1,none⟩ (.int .i64 t.2.1)).setCell ⟨gv,i*4+2,none⟩ (.int .i64 t.2.2)).setCell ⟨gv,i*4+3,none⟩ u) B p0 p1 p2 p3 p4 (.slice (some ⟨gv,0,none⟩) r cv) (R.set i (t,u)) (S.set i (t,l)):=by
 subst hr
 obtain ⟨o1,g1⟩:=h.own.stored (i*4) (.int .i64 t.1)
 obtain ⟨o2,g2⟩:=o1.stored (i*4+1) (.int .i64 t.2.1)
 obtain ⟨o3,g3⟩:=o2.stored (i*4+2) (.int .i64 t.2.2)
 obtain ⟨o4,g4⟩:=o3.stored (i*4+3) u
 rw [rowS_set R i t u hi] at o4
 exact h.put hi (Qy (Qy (Qy g1 g2) g3) g4) o4 hu hT
theorem wrap_small {a:Int} (h:0≤a∧a≤300):IntKind.i64.wrap a=a:=by rw [IntKind.wrap_i64];omega
theorem insS_mem (h:Nat→Int) (i:Nat) (a:Int×Int×Int):∀S:List ((Int×Int×Int)×List Nat),∀s∈insS h i a S,∀j∈s.2,j=i∨∃s'∈S,j∈s'.2
 | []=>by simp [insS]
 | x :: r=>by
  intro s hs j hj
  unfold insS at hs
  split at hs
  ·rcases List.mem_cons.1 hs with rfl|hs
   ·exact Or.inr ⟨_,by simp,hj⟩
   ·rcases insS_mem h i a r s hs j hj with e|⟨s',h1,h2⟩
    ·exact Or.inl e
    ·exact Or.inr ⟨s',by simp [h1],h2⟩
  ·split at hs
   ·rcases List.mem_cons.1 hs with rfl|hs
    ·rcases Xm.1 hj with e|e
     ·exact Or.inl e
     ·exact Or.inr ⟨x,by simp,e⟩
    ·exact Or.inr ⟨s,by simp [hs],hj⟩
   ·rcases List.mem_cons.1 hs with rfl|hs
    ·simp at hj
     exact Or.inl hj
    ·exact Or.inr ⟨s,hs,hj⟩
theorem hpN_lt (pl:Nat→Int×Int×Int) (h:Nat→Int):∀i,∀s∈hpN pl h i,∀j∈s.2,j<i
 | 0=>by simp [hpN]
 | i+1=>fun s hs j hj=>by
  unfold hpN at hs
  rcases insS_mem h i (pl i) _ s hs j hj with e|⟨s',h1,h2⟩
  ·omega
  ·have:=hpN_lt pl h i s' h1 j h2
   omega
theorem insN_len (h:Nat→Int) (i:Nat):∀l:List Nat,(insN h i l).length=l.length+1
 | []=>by simp [insN]
 | x :: r=>by
  unfold insN
  split
  ·simp [insN_len h i r]
  ·simp
theorem insS_lens (h:Nat→Int) (i:Nat) (a:Int×Int×Int) (b:Nat):∀S:List ((Int×Int×Int)×List Nat),(∀s∈S,s.2.length≤b)→∀s∈insS h i a S,s.2.length≤b+1
 | [],_=>by simp [insS]
 | x :: r,hS=>by
  intro s hs
  unfold insS at hs
  split at hs
  ·rcases List.mem_cons.1 hs with rfl|hs
   ·have:=hS s (by simp)
    omega
   ·exact insS_lens h i a b r (fun q hq=>hS q (by simp [hq])) s hs
  ·split at hs
   ·rcases List.mem_cons.1 hs with rfl|hs
    ·have:=hS x (by simp)
     simp only [insN_len]
     omega
    ·have:=hS s (by simp [hs])
     omega
   ·rcases List.mem_cons.1 hs with rfl|hs
    ·simp
    ·have:=hS s hs
     omega
theorem hpN_lens (pl:Nat→Int×Int×Int) (h:Nat→Int):∀i,∀s∈hpN pl h i,s.2.length≤i
 | 0=>by simp [hpN]
 | i+1=>by
  unfold hpN
  exact insS_lens h i (pl i) i _ (hpN_lens pl h i)
def Spot (h:Nat→Int) (i:Nat) (l:List Nat) (p:Nat):Prop:=(∀j (hj:j<l.length),j<p→h l[j]<h i)∧∀hp:p<l.length,¬h l[p]<h i
def LowN (h:Nat→Int) (i:Nat) (l:List Nat) (p:Nat):Prop := ∀j (hj:j<l.length),j<p→h l[j]<h i
theorem lowN_next {h:Nat→Int} {i p:Nat} {l:List Nat} (hL:LowN h i l p) (hp:p<l.length) (hl:h l[p]<h i):LowN h i l (p+1):=fun j hj hjp=>by
 by_cases e:j=p
 ·subst e
  exact hl
 ·exact hL j hj (by omega)
theorem withP_at {S:List ((Int×Int×Int)×List Nat)} {P:Int×Int×Int} {k:Nat} (h:Nat→Int) (i:Nat) (hF:Found S P k) (hk:k≤S.length):∃hk':k<(withP S P k).length,(withP S P k)[k].1=P∧(∀j∈(withP S P k)[k].2,∃s∈S,j∈s.2)∧insS h i P S=(withP S P k).set k (P,insN h i (withP S P k)[k].2)∧((withP S P k)[k].2=[]∨∃s∈S,(withP S P k)[k].2=s.2):=by
 by_cases e:∃h:k<S.length,S[k].1=P
 ·have ew:withP S P k=S:=by
   unfold withP
   rw [if_neg (by simpa using e)]
  obtain ⟨h1,h2⟩:=e
  rw [ew]
  exact ⟨h1,h2,fun j hj=>⟨_,List.getElem_mem h1,hj⟩,insS_old S k h1 hF.1 h2,Or.inr ⟨_,List.getElem_mem h1,rfl⟩⟩
 ·have ew:withP S P k=S.take k++(P,[]) :: S.drop k:=by
   unfold withP
   rw [if_pos (by simpa using e)]
  rw [ew]
  have eg:(S.take k++(P,[]) :: S.drop k)[k]'(by simp;omega)=(P,[]):=by
   rw [List.getElem_append_right (by simp;omega)]
   simp [Nat.min_eq_left hk]
  refine ⟨by simp;omega,by rw [eg],by rw [eg];simp,?_,Or.inl (by rw [eg])⟩
  rw [eg,shift_put S (P,insN h i []) (P,[]) k hk]
  exact insS_new S k hk hF.1 (fun hk'=>⟨hF.2 hk',fun e9=>e ⟨hk',e9⟩⟩)
def CapsOk (R:List ((Int×Int×Int)×Value)):Prop := ∀x∈R,∀a n c,x.2=.slice a n c→n≤c
theorem caps_put {R:List ((Int×Int×Int)×Value)} (h:CapsOk R) (t:Int×Int×Int) (k:Nat):CapsOk (R.take k++(t,.slice none 0 0) :: R.drop k):=fun x hx a n c e=>by
 rcases List.mem_append.1 hx with hx|hx
 ·exact h x (List.mem_of_mem_take hx) a n c e
 ·rcases List.mem_cons.1 hx with rfl|hx
  ·simp at e
   omega
  ·exact h x (List.mem_of_mem_drop hx) a n c e
theorem Jx:∀l:List (Int×Int×Int),(flatV l).length=l.length*3
 | []=>rfl
 | x :: r=>by
  have:=Jx r
  simp only [flatV,List.flatMap_cons,List.length_append,List.length_cons,List.length_nil] at this ⊢
  omega
theorem flatV_one (l:List (Int×Int×Int)):∀u∈flatV l,u.oneCell'=true:=fun u hu=>by
 simp only [flatV,List.mem_flatMap] at hu
 obtain ⟨x,_,hx⟩:=hu
 simp at hx
 rcases hx with rfl|rfl|rfl<;>rfl
theorem trow_flat {w:World} {g:Nat} {l:List (Int×Int×Int)} (h:TRow w (some ⟨g,0,none⟩) l) (j:Nat) (u:Value) (hu:(flatV l)[j]?=some u):w.cell? ⟨g,j,none⟩=some u:=by
 have hj:j<(flatV l).length:=(List.getElem?_eq_some_iff.1 hu).1
 rw [Jx] at hj
 obtain ⟨q,hq⟩:∃q,q=j / 3:=⟨_,rfl⟩
 have hql:q<l.length:=by omega
 obtain ⟨g',e,c0,c1,c2⟩:=h q hql
 cases e
 obtain ⟨f0,f1,f2⟩:=flatV_at l q hql
 have e3:j=q*3∨j=q*3+1∨j=q*3+2:=by omega
 clear hq hj
 rcases e3 with rfl|rfl|rfl
 ·rw [f0] at hu
  exact c0.trans hu
 ·rw [f1] at hu
  exact c1.trans hu
 ·rw [f2] at hu
  exact c2.trans hu
theorem trow_take {w:World} {g:Nat} {l:List (Int×Int×Int)} (h:TRow w (some ⟨g,0,none⟩) l) (p j:Nat) (u:Value) (hu:(flatV (l.take p))[j]?=some u):w.cell? ⟨g,j,none⟩=some u:=by
 refine trow_flat h j u ?_
 have e:flatV l=flatV (l.take p)++flatV (l.drop p):=by rw [←Jq,List.take_append_drop]
 rw [e,List.getElem?_append_left (List.getElem?_eq_some_iff.1 hu).1]
 exact hu
theorem addr_add (g o j:Nat):(⟨g,o,none⟩:Addr).add j=⟨g,o+j,none⟩:=by
 unfold Addr.add
 split<;>simp_all
theorem trow_drop {w:World} {g:Nat} {l:List (Int×Int×Int)} (h:TRow w (some ⟨g,0,none⟩) l) (p j:Nat) (u:Value) (hu:(flatV (l.drop p))[j]?=some u):w.cell? ⟨g,p*3+j,none⟩=some u:=by
 refine trow_flat h _ u ?_
 have e:flatV l=flatV (l.take p)++flatV (l.drop p):=by rw [←Jq,List.take_append_drop]
 have hj:j<(flatV (l.drop p)).length:=(List.getElem?_eq_some_iff.1 hu).1
 rw [Jx,List.length_drop] at hj
 have hl:(flatV (l.take p)).length=p*3:=by rw [Jx,List.length_take,Nat.min_eq_left (by omega)]
 rw [e,List.getElem?_append_right (by omega),hl,Nat.add_sub_cancel_left]
 exact hu
theorem hst_nil {w W5:World} {B:Nat} {p0 p1 p2 p3 p4:Value} (c0:W5.cell? ⟨B,0,none⟩=some p0) (c1:W5.cell? ⟨B,1,none⟩=some p1) (c2:W5.cell? ⟨B,2,none⟩=some p2) (c3:W5.cell? ⟨B,3,none⟩=some p3) (c4:W5.cell? ⟨B,4,none⟩=some p4) (c5:W5.cell? ⟨B,5,none⟩=some (.slice none 0 0)) (f5:W5.frozen? ⟨B,5,none⟩=false) (hB:w.heap.size≤B) (hb:Bl w W5):HSt w W5 B p0 p1 p2 p3 p4 (.slice none 0 0) [] [] :=
 ⟨c0,c1,c2,c3,c4,c5,f5,⟨by simp [rowS],Or.inl ⟨rfl,rfl⟩⟩,by simp,rfl,fun i hi=>by simp at hi,hB,hb⟩
end Go.Proofs.YtgpjaecgkkgehaaGreatDoor
