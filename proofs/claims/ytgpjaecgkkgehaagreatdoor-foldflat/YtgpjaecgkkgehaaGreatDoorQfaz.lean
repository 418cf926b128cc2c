/- A part of the proof of foldFlat_holds. -/
import Derived.Test.YtgpjaecgkkgehaaGreatDoorQfay
import Derived.Test.YtgpjaecgkkgehaaGreatDoorQfax
namespace Go.Proofs.YtgpjaecgkkgehaaGreatDoor
open Go.RowKit
def kdT (vx vy:Int):Int:=if vx=1 then 1 else if vx=-1 then 3 else if vy=-1 then 0 else 2
def mvt (m:M6) (t:Int×Int×Int):Int×Int×Int :=
 ((m.1*(2*t.1+1)+m.2.1*(2*t.2.1+1)+m.2.2.2.2.1 - 1) / 2,(m.2.2.1*(2*t.1+1)+m.2.2.2.1*(2*t.2.1+1)+m.2.2.2.2.2 - 1) / 2,
  kdT (m.1*outX t.2.2+m.2.1*outY t.2.2) (m.2.2.1*outX t.2.2+m.2.2.2.1*outY t.2.2))
theorem map_even {a b c d e f:Int} (h:mapB a b c d e f=true):e % 2=0∧f % 2=0:=by
 unfold mapB at h
 simp only [Bool.and_eq_true,evenB,decide_eq_true_eq] at h
 omega
theorem k_four {k:Int} (h:0≤k∧k≤3):k=0∨k=1∨k=2∨k=3:=by omega
theorem mvt_facts {a b c d e f x y k:Int} (hm:GoodM (a,b,c,d,e,f) 48000) (hx:0≤x∧x≤8) (hy:0≤y∧y≤8) (hk:0≤k∧k≤3) {X Y K:Int} (hX:(X,Y,K)=mvt (a,b,c,d,e,f) (x,y,k)) :
  dot a b (2*x+1) (2*y+1)+e=2*X+1∧dot c d (2*x+1) (2*y+1)+f=2*Y+1∧(0≤K∧K≤3)∧dot a b (outX k) (outY k)=outX K∧dot c d (outX k) (outY k)=outY K∧triB X Y K=true∧triB x y k=true∧mapB a b c d e f=true:=by
 obtain ⟨h1,h2,h3⟩:=hm
 have h1:mapB a b c d e f=true:=h1
 have he:=map_even h1
 simp only [mvt,Prod.mk.injEq] at hX
 obtain ⟨eX,eY,eK⟩:=hX
 dsimp only at h2 h3
 rcases map_lin h1 with ⟨ha,rfl,rfl,hd⟩ | ⟨rfl,hb,hc,rfl⟩
 ·rcases ha with rfl | rfl <;> rcases hd with rfl | rfl <;> rcases k_four hk with rfl | rfl | rfl | rfl <;> simp [outX,outY,kdT,dot,triB,h1] at * <;> (subst eK;simp;omega)
 ·rcases hb with rfl | rfl <;> rcases hc with rfl | rfl <;> rcases k_four hk with rfl | rfl | rfl | rfl <;> simp [outX,outY,kdT,dot,triB,h1] at * <;> (subst eK;simp;omega)
theorem mvt_inj {m:M6} (hm:mapM m=true) {t u:Int×Int×Int} (ht:0≤t.2.2∧t.2.2≤3) (hu:0≤u.2.2∧u.2.2≤3) (h:mvt m t=mvt m u):t=u:=by
 obtain ⟨a,b,c,d,e,f⟩:=m
 obtain ⟨x,y,k⟩:=t
 obtain ⟨p,q,r⟩:=u
 have hm:mapB a b c d e f=true:=hm
 have he:=map_even hm
 simp only [mvt,Prod.mk.injEq] at h
 obtain ⟨eX,eY,eK⟩:=h
 dsimp only at ht hu
 simp only [Prod.mk.injEq]
 rcases map_lin hm with ⟨ha,rfl,rfl,hd⟩ | ⟨rfl,hb,hc,rfl⟩
 ·rcases ha with rfl | rfl <;> rcases hd with rfl | rfl <;> refine ⟨by omega,by omega, ?_⟩ <;> rcases k_four ht with rfl | rfl | rfl | rfl <;> rcases k_four hu with rfl | rfl | rfl | rfl <;> simp [outX,outY,kdT] at eK ⊢
 ·rcases hb with rfl | rfl <;> rcases hc with rfl | rfl <;> refine ⟨by omega,by omega, ?_⟩ <;> rcases k_four ht with rfl | rfl | rfl | rfl <;> rcases k_four hu with rfl | rfl | rfl | rfl <;> simp [outX,outY,kdT] at eK ⊢
theorem Move_small (m:M6) (t:Int×Int×Int) (w:World) (hm:GoodM m 48000) (hb:(0≤t.1∧t.1≤8)∧(0≤t.2.1∧t.2.1≤8)∧(0≤t.2.2∧t.2.2≤3)) (hs:Steps w) :
  Calls Tryz.prog 102 #[.agg #[.int .i64 m.1,.int .i64 m.2.1,.int .i64 m.2.2.1,.int .i64 m.2.2.2.1,.int .i64 m.2.2.2.2.1,.int .i64 m.2.2.2.2.2],.agg #[.int .i64 t.1,.int .i64 t.2.1,.int .i64 t.2.2]] w fun r w'=>r=.returned (.tuple #[.agg #[.int .i64 (mvt m t).1,.int .i64 (mvt m t).2.1,.int .i64 (mvt m t).2.2],.int .i64 0])∧Below w.heap.size w w':=by
 obtain ⟨a,b,c,d,e,f⟩:=m
 obtain ⟨x,y,k⟩:=t
 obtain ⟨h1,h2,h3,h4,h5,h6,h7,h8⟩:=mvt_facts hm hb.1 hb.2.1 hb.2.2 (X:=(mvt (a,b,c,d,e,f) (x,y,k)).1) (Y:=(mvt (a,b,c,d,e,f) (x,y,k)).2.1) (K:=(mvt (a,b,c,d,e,f) (x,y,k)).2.2) rfl
 exact Move_yes a b c d e f x y k _ _ _ w h8 h7 h1 h2 h3 h4 h5 h6 hs
open Go.RowKit
def pls (L:List (Int×Int×Int)) (M:Nat→M6) (n:Nat):List (Int×Int×Int):=(List.range n).map fun i=>mvt (M i) (L.getD i (0,0,0))
theorem pls_len (L:List (Int×Int×Int)) (M:Nat→M6) (n:Nat):(pls L M n).length=n:=by simp [pls]
theorem pls_succ (L:List (Int×Int×Int)) (M:Nat→M6) (n:Nat):pls L M (n+1)=pls L M n ++ [mvt (M n) (L.getD n (0,0,0))]:=by
 unfold pls
 rw [List.range_succ,List.map_append]
 rfl
structure SpB (w0 wx:World) (B:Nat) (ad:Option Addr) (n cc ra rk gm cm:Nat) (v:Value) (l:List (Int×Int×Int)):Prop where
 c0:wx.cell? ⟨B,0,none⟩=some (.slice ad n cc)
 c1:wx.cell? ⟨B,1,none⟩=some (.map (some ra))
 c2:wx.cell? ⟨B,2,none⟩=some (.map (some rk))
 c3:wx.cell? ⟨B,3,none⟩=some (.slice (some ⟨gm,0,none⟩) n cm)
 c4:wx.cell? ⟨B,4,none⟩=some v
 f4:wx.frozen? ⟨B,4,none⟩=false
 own:wx.ownsRow (B+1) 56 3 v l.length (flatV l)
 low:w0.heap.size≤B
 bel:Below w0.heap.size w0 wx
theorem SpB.lt {w0 wx:World} {B:Nat} {ad:Option Addr} {n cc ra rk gm cm:Nat} {v:Value} {l:List (Int×Int×Int)} (h:SpB w0 wx B ad n cc ra rk gm cm v l):B<wx.heap.size:=World.block_lt_of_cell? _ _ h.c0
theorem SpB.kept {w0 wx w':World} {B:Nat} {ad:Option Addr} {n cc ra rk gm cm:Nat} {v:Value} {l:List (Int×Int×Int)} (h:SpB w0 wx B ad n cc ra rk gm cm v l) (hb:Below wx.heap.size wx w'):SpB w0 w' B ad n cc ra rk gm cm v l :=
 ⟨cl_kept hb h.c0,cl_kept hb h.c1,cl_kept hb h.c2,cl_kept hb h.c3,cl_kept hb h.c4,(hb.frozen h.lt).trans h.f4,own_below h.own hb,h.low,bl_via h.bel hb⟩
theorem SpB.more {w0 wx w2:World} {B:Nat} {ad:Option Addr} {n cc ra rk gm cm:Nat} {v v':Value} {l:List (Int×Int×Int)} {t:Int×Int×Int} (h:SpB w0 wx B ad n cc ra rk gm cm v l) (hg:wx.grownBy w2 v.ownBlock) (ho:w2.ownsRow (B+1) 56 3 v' (l.length+1) (flatV l ++ [.int .i64 t.1,.int .i64 t.2.1,.int .i64 t.2.2])):SpB w0 (w2.setCell ⟨B,4,none⟩ v') B ad n cc ra rk gm cm v' (l ++ [t]):=by
 have hn:some B≠v.ownBlock:=fun e=>by
  have:=own_base h.own B e.symm
  omega
 have hn':v'.ownBlock≠some B:=fun e=>by
  have:=own_base ho B e
  omega
 have g1:=h.bel.grown hg h.bel.size (fun k hk=>by have:=own_base h.own k hk;have:=h.low;omega)
 have hlt2:B<w2.heap.size:=Nat.lt_of_lt_of_le h.lt hg.size
 have c4:=hg.cell h.c4 hn
 have f4:w2.frozen? ⟨B,4,none⟩=false:=(World.frozen?_of_block (a:=⟨B,4,none⟩) (hg.block B h.lt hn)).trans h.f4
 refine ⟨st_else (hg.cell h.c0 hn) (by omega),st_else (hg.cell h.c1 hn) (by omega),st_else (hg.cell h.c2 hn) (by omega),st_else (hg.cell h.c3 hn) (by omega),st_same c4, ?_, ?_,h.low, ?_⟩
 ·simp [go_sem,f4]
 ·rw [flatV_add,List.length_append,List.length_singleton]
  exact ho.kept (grown_cell w2 B 4 v') (Or.inr hn')
 ·exact g1.setCell (p:=⟨B,4,none⟩) h.low _
theorem TRow.far {w:World} {pa:Option Addr} {l:List (Int×Int×Int)} {p:Addr} {u:Value} (h:TRow w pa l) (hn:∀ g,pa=some ⟨g,0,none⟩→g≠p.block):TRow (w.setCell p u) pa l:=fun i hi=>by
 obtain ⟨g,e,c0,c1,c2⟩:=h i hi
 exact ⟨g,e,st_far c0 (hn g e),st_far c1 (hn g e),st_far c2 (hn g e)⟩
theorem fresh3_d {v w8:World} {g:Nat} (hg:v.heap.size=g) (hb:Below ((v.alloc (.cells #[.int .i64 0,.int .i64 0,.int .i64 0] 56)).drew).heap.size ((v.alloc (.cells #[.int .i64 0,.int .i64 0,.int .i64 0] 56)).drew) w8):(w8.cell? ⟨g,0,none⟩=some (.int .i64 0)∧w8.cell? ⟨g,1,none⟩=some (.int .i64 0)∧w8.cell? ⟨g,2,none⟩=some (.int .i64 0))∧(w8.frozen? ⟨g,0,none⟩=false∧w8.frozen? ⟨g,1,none⟩=false∧w8.frozen? ⟨g,2,none⟩=false)∧g<w8.heap.size:=by
 subst hg
 have c0:w8.cell? ⟨v.heap.size,0,none⟩=some (.int .i64 0):=cl_kept hb (by simp [go_sem])
 refine ⟨⟨c0,cl_kept hb (by simp [go_sem]),cl_kept hb (by simp [go_sem])⟩,⟨?_, ?_, ?_⟩,World.block_lt_of_cell? _ _ c0⟩
 all_goals exact (hb.frozen (by simp)).trans (by simp [go_sem])
set_option maxRecDepth 100000 in
set_option maxHeartbeats 6400000 in
theorem spread_pile (w:World) (cc ra rk gm cm:Nat) (ad:Option Addr) (L:List (Int×Int×Int)) (kd:Int×Int×Int×Int→Int) (M:Nat→M6) (hs:Steps w) (hPA:PA w ad ra L) (hK:KL w rk kd) (hL:L.length≤300) (hbd:∀ t∈L,(0≤t.1∧t.1≤8)∧(0≤t.2.1∧t.2.1≤8)∧(0≤t.2.2∧t.2.2≤3)) (hM:MRow w gm L.length M) (hC:Cons kd L M) (hG:∀ i,i<L.length→GoodM (M i) 48000) :
  Calls Tryz.prog 66 #[.agg #[.slice ad L.length cc,.map (some ra),.map (some rk)],.slice (some ⟨gm,0,none⟩) L.length cm] w fun e w'=>∃ pa pc,e=.returned (.tuple #[.agg #[.slice ad L.length cc,.map (some ra),.map (some rk),.slice (some ⟨gm,0,none⟩) L.length cm,.slice pa L.length pc],.bool true])∧TRow w' pa (pls L M L.length)∧Below w.heap.size w w':=by
 have CF:Hid (∀ (W':World) (pa:Option Addr) (pn pc:Nat),Below w.heap.size w W'→Calls Tryz.prog 103 #[.agg #[.slice ad L.length cc,.map (some ra),.map (some rk),.slice (some ⟨gm,0,none⟩) L.length cm,.slice pa pn pc]] W' fun e w'=>e=.returned (.bool true)∧Below W'.heap.size W' w'):=fun W' pa pn pc hW'=>fits_any W' cc ra rk gm cm ad pa pn pc L kd M (hs.kept hW') (hPA.kept hW') (hK.kept hW') hL hbd (hM.kept hW') hC hG
 have CM:Hid (∀ (W':World) (i:Nat) (hi:i<L.length),Below w.heap.size w W'→Calls Tryz.prog 102 #[.agg #[.int .i64 (M i).1,.int .i64 (M i).2.1,.int .i64 (M i).2.2.1,.int .i64 (M i).2.2.2.1,.int .i64 (M i).2.2.2.2.1,.int .i64 (M i).2.2.2.2.2],.agg #[.int .i64 L[i].1,.int .i64 L[i].2.1,.int .i64 L[i].2.2]] W' fun r w'=>r=.returned (.tuple #[.agg #[.int .i64 (mvt (M i) L[i]).1,.int .i64 (mvt (M i) L[i]).2.1,.int .i64 (mvt (M i) L[i]).2.2],.int .i64 0])∧Below W'.heap.size W' w'):=fun W' i hi hW'=>Move_small (M i) L[i] W' (hG i hi) (hbd _ (List.getElem_mem hi)) (hs.kept hW')
 have HR:Hid (TRow w ad L∧MRow w gm L.length M):=⟨hPA.1,hM⟩
 obtain ⟨i3,hi3,hz30,hz31,hz32⟩:=info_parts inf23
 have HI:Hid (Tryz.prog.info? 56=some i3∧i3.zero=some (.agg #[.int .i64 0,.int .i64 0,.int .i64 0])∧i3.size=3∧i3.bytes=24):=⟨hi3,hz30,hz31,hz32⟩
 have qn:((L.length:Int) != (L.length:Int))=false:=by simp
 clear hs hPA hK hbd hM hC hG hi3 hz30 hz31 hz32
 go_enter Tryz.func66,Tryz.ntmps66
 go_wp2
 go_loopg [24] L.length (fun gk s24 wx=>∃ (i:Nat) (v:Value),i≤L.length∧gk=L.length - i∧s24=.int .i64 (i:Int)∧SpB ((w.alloc (.cells #[.slice ad L.length cc,.map (some ra),.map (some rk)] 68)).alloc (.cells #[.slice none 0 0,.map none,.map none,.slice none 0 0,.slice none 0 0] 70)) wx (w.heap.size+1+1) ad L.length cc ra rk gm cm v (pls L M i))
 case atStart=>exact ⟨0,.slice none 0 0,by omega,rfl,rfl,⟨by simp [go_sem],by simp [go_sem],by simp [go_sem],by simp [go_sem],by simp [go_sem],by simp [go_sem],⟨by simp [pls,flatV],.inl ⟨rfl,by simp [pls]⟩⟩,by simp,bl_alloc (bl_refl _)⟩⟩
 case round =>
  obtain ⟨i,v,hi,rfl,rfl,hS⟩:=hrel
  have HS:Hid (SpB ((w.alloc (.cells #[.slice ad L.length cc,.map (some ra),.map (some rk)] 68)).alloc (.cells #[.slice none 0 0,.map none,.map none,.slice none 0 0,.slice none 0 0] 70)) wr (w.heap.size+1+1) ad L.length cc ra rk gm cm v (pls L M i)):=hS
  have HB:Hid (Below w.heap.size w wr):=bl_via (bl_alloc (bl_alloc (bl_refl _))) hS.bel
  have zB:=hS.lt
  clear hS
  by_cases h1:i<L.length
  ·have i1:(i:Int)<(L.length:Int):=by omega
   have i0:(0:Int)≤(i:Int):=by omega
   obtain ⟨gt_,rfl,t0,t1,t2⟩:=HR.out.1 i h1
   replace t0:=cl_kept HB.out t0
   replace t1:=cl_kept HB.out t1
   replace t2:=cl_kept HB.out t2
   have zt:gt_<wr.heap.size:=World.block_lt_of_cell? _ _ t0
   obtain ⟨⟨y0,y1,y2,y3,y4,y5⟩,_⟩:=HR.out.2 i h1
   have CMi:=CM.out
   obtain ⟨A,B,C,D,E,F,hmi⟩:∃ A B C D E F,M i=(A,B,C,D,E,F):=⟨_,_,_,_,_,_,rfl⟩
   obtain ⟨x,y,k,hti⟩:∃ x y k,L[i]=(x,y,k):=⟨_,_,_,rfl⟩
   obtain ⟨X,Y,K,hmv⟩:∃ X Y K,mvt (M i) L[i]=(X,Y,K):=⟨_,_,_,rfl⟩
   have CMr:Hid (∀ W':World,Below wr.heap.size wr W'→Calls Tryz.prog 102 #[.agg #[.int .i64 A,.int .i64 B,.int .i64 C,.int .i64 D,.int .i64 E,.int .i64 F],.agg #[.int .i64 x,.int .i64 y,.int .i64 k]] W' fun r w'=>r=.returned (.tuple #[.agg #[.int .i64 X,.int .i64 Y,.int .i64 K],.int .i64 0])∧Below W'.heap.size W' w'):=fun W' hW'=>by
    have h:=CM.out W' i h1 (bl_via HB.out hW')
    rw [hmv,hmi,hti] at h
    exact h
   rw [hmi] at y0 y1 y2 y3 y4 y5
   rw [hti] at t0 t1 t2
   dsimp only at y0 y1 y2 y3 y4 y5 t0 t1 t2
   have HP:Hid (pls L M (i+1)=pls L M i ++ [(X,Y,K)]):=by
    have:pls L M (i+1)=pls L M i ++ [(X,Y,K)]:=by
     rw [pls_succ,← hmv,List.getD_eq_getElem?_getD,List.getElem?_eq_getElem h1]
     rfl
    exact this
   clear CMi hmi hti hmv
   go_wp2
   refine wp_named (fun W0 hW0=>?_)
   have HBN:Hid (Below wr.heap.size wr W0):=by
    have:Below wr.heap.size wr W0:=by rw [hW0];exact bl_alloc (bl_refl _)
    exact this
   obtain ⟨B9,hB9⟩:∃ b,b=wr.heap.size:=⟨_,rfl⟩
   have x0:W0.cell? ⟨B9,0,none⟩=some (.int .i64 x):=by rw [hW0,hB9];simp [go_sem]
   have x1:W0.cell? ⟨B9,1,none⟩=some (.int .i64 y):=by rw [hW0,hB9];simp [go_sem]
   have x2:W0.cell? ⟨B9,2,none⟩=some (.int .i64 k):=by rw [hW0,hB9];simp [go_sem]
   clear hW0
   rw [← hB9]
   clear hB9
   have bw2:=bl_via HB.out HBN.out
   replace y0:=cl_kept bw2 y0
   replace y1:=cl_kept bw2 y1
   replace y2:=cl_kept bw2 y2
   replace y3:=cl_kept bw2 y3
   replace y4:=cl_kept bw2 y4
   replace y5:=cl_kept bw2 y5
   have zW1:gm<W0.heap.size:=World.block_lt_of_cell? _ _ y0
   have zWB:B9<W0.heap.size:=World.block_lt_of_cell? _ _ x0
   have CM0:Hid (∀ W':World,Below W0.heap.size W0 W'→Calls Tryz.prog 102 #[.agg #[.int .i64 A,.int .i64 B,.int .i64 C,.int .i64 D,.int .i64 E,.int .i64 F],.agg #[.int .i64 x,.int .i64 y,.int .i64 k]] W' fun r w'=>r=.returned (.tuple #[.agg #[.int .i64 X,.int .i64 Y,.int .i64 K],.int .i64 0])∧Below W'.heap.size W' w'):=fun W' hW'=>CMr.out W' (bl_via HBN.out hW')
   clear bw2 t0 t1 t2 zt
   go_cut [9,10] (fun s9 s10 wx=>∃ g9:Nat,s9=.pointer (some ⟨g9,0,none⟩)∧s10=.int .i64 0∧(wx.cell? ⟨g9,0,none⟩=some (.int .i64 X)∧wx.cell? ⟨g9,1,none⟩=some (.int .i64 Y)∧wx.cell? ⟨g9,2,none⟩=some (.int .i64 K))∧Below W0.heap.size W0 wx)
   case first =>
    go_region_held3 (fun w'=>w'.cell? ⟨gm,i*6,none⟩=some (.int .i64 A)∧w'.cell? ⟨gm,i*6+1,none⟩=some (.int .i64 B)∧w'.cell? ⟨gm,i*6+2,none⟩=some (.int .i64 C)∧w'.cell? ⟨gm,i*6+3,none⟩=some (.int .i64 D)∧w'.cell? ⟨gm,i*6+4,none⟩=some (.int .i64 E)∧w'.cell? ⟨gm,i*6+5,none⟩=some (.int .i64 F)∧w'.cell? ⟨B9,0,none⟩=some (.int .i64 x)∧w'.cell? ⟨B9,1,none⟩=some (.int .i64 y)∧w'.cell? ⟨B9,2,none⟩=some (.int .i64 k))
     ((refine ⟨?_, ?_, ?_, ?_, ?_, ?_, ?_, ?_, ?_⟩ <;> (repeat' (first | (with_reducible assumption) | (with_reducible refine st_far ?_ ?_) | (dsimp only;omega) | (simp [go_sem];done) | (with_reducible refine al_old ?_) | (with_reducible refine dr_old ?_)))))
     ((go_at_call 102;refine (CM0.out _ (by with_reducible repeat (first | exact bl_refl _ | refine bl_drew ?_ | refine bl_alloc ?_))).mono ?_;rintro e w8 ⟨rfl,hb⟩;have y0_8:w8.cell? ⟨gm,i*6,none⟩=some (.int .i64 A):=cl_kept hb (by with_reducible (repeat (first | assumption | refine dr_old ?_ | refine al_old ?_)));have y1_8:w8.cell? ⟨gm,i*6+1,none⟩=some (.int .i64 B):=cl_kept hb (by with_reducible (repeat (first | assumption | refine dr_old ?_ | refine al_old ?_)));have y2_8:w8.cell? ⟨gm,i*6+2,none⟩=some (.int .i64 C):=cl_kept hb (by with_reducible (repeat (first | assumption | refine dr_old ?_ | refine al_old ?_)));have y3_8:w8.cell? ⟨gm,i*6+3,none⟩=some (.int .i64 D):=cl_kept hb (by with_reducible (repeat (first | assumption | refine dr_old ?_ | refine al_old ?_)));have y4_8:w8.cell? ⟨gm,i*6+4,none⟩=some (.int .i64 E):=cl_kept hb (by with_reducible (repeat (first | assumption | refine dr_old ?_ | refine al_old ?_)));have y5_8:w8.cell? ⟨gm,i*6+5,none⟩=some (.int .i64 F):=cl_kept hb (by with_reducible (repeat (first | assumption | refine dr_old ?_ | refine al_old ?_)));have x0_8:w8.cell? ⟨B9,0,none⟩=some (.int .i64 x):=cl_kept hb (by with_reducible (repeat (first | assumption | refine dr_old ?_ | refine al_old ?_)));have x1_8:w8.cell? ⟨B9,1,none⟩=some (.int .i64 y):=cl_kept hb (by with_reducible (repeat (first | assumption | refine dr_old ?_ | refine al_old ?_)));have x2_8:w8.cell? ⟨B9,2,none⟩=some (.int .i64 k):=cl_kept hb (by with_reducible (repeat (first | assumption | refine dr_old ?_ | refine al_old ?_)));(first | (have hfz:=fresh3_a (g:=W0.heap.size) rfl hb;obtain ⟨⟨fy0,fy1,fy2⟩,⟨fz0,fz1,fz2⟩,fzz⟩:=hfz) | (have hfz:=fresh3_d (g:=W0.heap.size) rfl hb;obtain ⟨⟨fy0,fy1,fy2⟩,⟨fz0,fz1,fz2⟩,fzz⟩:=hfz) | (have hfz:=fresh3_dd (g:=W0.heap.size) rfl hb;obtain ⟨⟨fy0,fy1,fy2⟩,⟨fz0,fz1,fz2⟩,fzz⟩:=hfz) | skip);have hq:Below W0.heap.size W0 w8:=(by with_reducible (first | exact hb | exact bl_undrew hb | exact bl_undrew (bl_undrew hb) | exact bl_via (bl_alloc (bl_refl _)) hb | exact bl_via (bl_drew (bl_alloc (bl_refl _))) hb | exact bl_via (bl_alloc (bl_drew (bl_refl _))) hb | exact bl_via (bl_drew (bl_alloc (bl_drew (bl_refl _)))) hb | exact bl_via (bl_drew (bl_drew (bl_alloc (bl_refl _)))) hb | exact bl_via (bl_alloc (bl_drew (bl_drew (bl_refl _)))) hb));have HQ8:Hid (Below W0.heap.size W0 w8):=hq;have zs1:gm<w8.heap.size:=World.block_lt_of_cell? _ _ y0_8;have zs2:B9<w8.heap.size:=World.block_lt_of_cell? _ _ x0_8;have zs3:=hq.size;clear hb hq))
    all_goals
     go_wp2
     go_meet
     case rel =>
      refine ⟨_,rfl,rfl, ?_, ?_⟩
      ·first | (simp [go_sem];done) | (simp [go_sem, *];done)
      ·with_reducible repeat' (first | exact HQ8.out | refine bl_set ?_ ?_ | refine bl_alloc ?_ | refine bl_drew ?_)
       all_goals (first | omega | (dsimp only;omega) | (simp;done))
   case rest =>
    obtain ⟨g9,rfl,rfl,⟨e0,e1,e2⟩,hBc⟩:=hcut
    have HSc:Hid (SpB _ wc (w.heap.size+1+1) _ _ _ _ _ _ _ v (pls L M i)):=HS.out.kept (bl_via HBN.out hBc)
    have z9:g9<wc.heap.size:=World.block_lt_of_cell? _ _ e0
    have c4:=HSc.out.c4
    have zBc:=HSc.out.lt
    clear HS HB HBN CMr CM0 hBc y0 y1 y2 y3 y4 y5 x0 x1 x2 zW1 zWB zB
    have hb1:w.heap.size+1+1+1≤wc.heap.size:=by omega
    have HPL:Hid ((pls L M i).length=i):=pls_len L M i
    have HO:Hid (wc.ownsRow (w.heap.size+1+1+1) 56 3 v i (flatV (pls L M i))):=by
     have:=HSc.out.own
     rw [HPL.out] at this
     exact this
    go_wp2_with (at_builtin;refine wpList_append_own _ rfl (.tmp 42) (.tmp 44) 57 rfl (w.heap.size+1+1+1) 56 i3 (.agg #[.int .i64 0,.int .i64 0,.int .i64 0]) 3 24 Tryz.underlying57 HI.out.1 HI.out.2.1 HI.out.2.2.1 HI.out.2.2.2 rfl (by decide) v i (flatV (pls L M i)) rfl (own_below HO.out (bl_alloc (bl_refl _))) ⟨wc.heap.size,0,none⟩ 1 1 [.int .i64 X,.int .i64 Y,.int .i64 K] rfl rfl (cell_three_new wc X Y K) (three_cell X Y K) (by unfold maxLen;omega) (by omega) (by simp;omega) ?grow)
    case grow =>
     intro v' w3 hown hgrow _
     obtain ⟨gv,cv,rfl⟩:∃ gv cv,v'=.slice (some ⟨gv,0,none⟩) (i+1) cv:=by
      rcases hown.2 with ⟨_,h0⟩ | ⟨gv,cv,_,h,_⟩
      ·omega
      ·exact ⟨gv,cv,h⟩
     have hk:=HSc.out.kept (bl_alloc (o:=.cells #[.int .i64 X,.int .i64 Y,.int .i64 K] 56) (bl_refl wc))
     have hN:=hk.more (t:=(X,Y,K)) hgrow (by rw [HPL.out];exact hown)
     rw [← HP.out] at hN
     have HN:=(show Hid _ from hN)
     have hnB:some (w.heap.size+1+1)≠v.ownBlock:=fun e=>by
      have:=own_base hk.own _ e.symm
      omega
     have d4:=hgrow.cell hk.c4 hnB
     have k4:w3.frozen? ⟨w.heap.size+1+1,4,none⟩=false:=(World.frozen?_of_block (a:=⟨w.heap.size+1+1,4,none⟩) (hgrow.block _ hk.lt hnB)).trans hk.f4
     have z3:w.heap.size+1+1<w3.heap.size:=World.block_lt_of_cell? _ _ d4
     clear hown hgrow hk hN hnB
     go_wp2
     go_roundg (L.length - (i+1))
     case measure=>omega
     case rel=>exact ⟨i+1,_,by omega,rfl,by go_num,HN.out⟩
  ·have i1:¬ (i:Int)<(L.length:Int):=by omega
   obtain rfl:i=L.length:=by omega
   obtain ⟨pa,pc,rfl,hT⟩:=own_tris HS.out.own
   rw [pls_len] at HS
   have c0:=HS.out.c0
   have c1:=HS.out.c1
   have c2:=HS.out.c2
   have c3:=HS.out.c3
   have c4:=HS.out.c4
   have HT:Hid (TRow wr pa (pls L M L.length)):=hT
   have HPA:Hid (∀ g,pa=some ⟨g,0,none⟩→w.heap.size+1+1+1≤g):=fun g e=>own_base HS.out.own g (by rw [e];rfl)
   clear hT
   have d0:wr.cell? ⟨w.heap.size+1,0,none⟩=some (.slice none 0 0):=cl_kept HS.out.bel (by simp [go_sem])
   have d1:wr.cell? ⟨w.heap.size+1,1,none⟩=some (.map none):=cl_kept HS.out.bel (by simp [go_sem])
   have d2:wr.cell? ⟨w.heap.size+1,2,none⟩=some (.map none):=cl_kept HS.out.bel (by simp [go_sem])
   have d3:wr.cell? ⟨w.heap.size+1,3,none⟩=some (.slice none 0 0):=cl_kept HS.out.bel (by simp [go_sem])
   have d4:wr.cell? ⟨w.heap.size+1,4,none⟩=some (.slice none 0 0):=cl_kept HS.out.bel (by simp [go_sem])
   have zD:w.heap.size+1<wr.heap.size:=World.block_lt_of_cell? _ _ d0
   have k0:wr.frozen? ⟨w.heap.size+1,0,none⟩=false:=(HS.out.bel.frozen (by simp)).trans (by simp [go_sem])
   have k1:wr.frozen? ⟨w.heap.size+1,1,none⟩=false:=(HS.out.bel.frozen (by simp)).trans (by simp [go_sem])
   have k2:wr.frozen? ⟨w.heap.size+1,2,none⟩=false:=(HS.out.bel.frozen (by simp)).trans (by simp [go_sem])
   have k3:wr.frozen? ⟨w.heap.size+1,3,none⟩=false:=(HS.out.bel.frozen (by simp)).trans (by simp [go_sem])
   have k4:wr.frozen? ⟨w.heap.size+1,4,none⟩=false:=(HS.out.bel.frozen (by simp)).trans (by simp [go_sem])
   have CF0:Hid (∀ W':World,Below wr.heap.size wr W'→Calls Tryz.prog 103 #[.agg #[.slice ad L.length cc,.map (some ra),.map (some rk),.slice (some ⟨gm,0,none⟩) L.length cm,.slice pa L.length pc]] W' fun e w'=>e=.returned (.bool true)∧Below W'.heap.size W' w'):=fun W' hW'=>CF.out W' pa L.length pc (bl_via HB.out hW')
   have HB1:Hid (Below w.heap.size w wr):=HB.out
   clear CF CM HR HI HS HB
   go_wp2
   go_region_held3 (fun w'=>w'.cell? ⟨w.heap.size+1+1,0,none⟩=some (.slice ad L.length cc)∧w'.cell? ⟨w.heap.size+1+1,1,none⟩=some (.map (some ra))∧w'.cell? ⟨w.heap.size+1+1,2,none⟩=some (.map (some rk))∧w'.cell? ⟨w.heap.size+1+1,3,none⟩=some (.slice (some ⟨gm,0,none⟩) L.length cm)∧w'.cell? ⟨w.heap.size+1+1,4,none⟩=some (.slice pa L.length pc))
    ((refine ⟨?_, ?_, ?_, ?_, ?_⟩ <;> (repeat' (first | (with_reducible assumption) | (with_reducible refine st_far ?_ ?_) | (dsimp only;omega) | (simp [go_sem];done) | (with_reducible refine al_old ?_) | (with_reducible refine dr_old ?_)))))
    ((go_at_call 103;refine (CF0.out _ (by with_reducible repeat (first | exact bl_refl _ | refine bl_drew ?_ | refine bl_alloc ?_))).mono ?_;rintro e w8 ⟨rfl,hb⟩;have c0_8:w8.cell? ⟨w.heap.size+1+1,0,none⟩=some (.slice ad L.length cc):=cl_kept hb (by with_reducible (repeat (first | assumption | refine dr_old ?_ | refine al_old ?_)));have c1_8:w8.cell? ⟨w.heap.size+1+1,1,none⟩=some (.map (some ra)):=cl_kept hb (by with_reducible (repeat (first | assumption | refine dr_old ?_ | refine al_old ?_)));have c2_8:w8.cell? ⟨w.heap.size+1+1,2,none⟩=some (.map (some rk)):=cl_kept hb (by with_reducible (repeat (first | assumption | refine dr_old ?_ | refine al_old ?_)));have c3_8:w8.cell? ⟨w.heap.size+1+1,3,none⟩=some (.slice (some ⟨gm,0,none⟩) L.length cm):=cl_kept hb (by with_reducible (repeat (first | assumption | refine dr_old ?_ | refine al_old ?_)));have c4_8:w8.cell? ⟨w.heap.size+1+1,4,none⟩=some (.slice pa L.length pc):=cl_kept hb (by with_reducible (repeat (first | assumption | refine dr_old ?_ | refine al_old ?_)));have d0_8:w8.cell? ⟨w.heap.size+1,0,none⟩=some (.slice none 0 0):=cl_kept hb (by with_reducible (repeat (first | assumption | refine dr_old ?_ | refine al_old ?_)));have k0_8:w8.frozen? ⟨w.heap.size+1,0,none⟩=false:=(hb.frozen (by dsimp only;first | exact zD | (simp;exact zD))).trans (by first | exact k0 | (simp [go_sem,k0];done));have d1_8:w8.cell? ⟨w.heap.size+1,1,none⟩=some (.map none):=cl_kept hb (by with_reducible (repeat (first | assumption | refine dr_old ?_ | refine al_old ?_)));have k1_8:w8.frozen? ⟨w.heap.size+1,1,none⟩=false:=(hb.frozen (by dsimp only;first | exact zD | (simp;exact zD))).trans (by first | exact k1 | (simp [go_sem,k1];done));have d2_8:w8.cell? ⟨w.heap.size+1,2,none⟩=some (.map none):=cl_kept hb (by with_reducible (repeat (first | assumption | refine dr_old ?_ | refine al_old ?_)));have k2_8:w8.frozen? ⟨w.heap.size+1,2,none⟩=false:=(hb.frozen (by dsimp only;first | exact zD | (simp;exact zD))).trans (by first | exact k2 | (simp [go_sem,k2];done));have d3_8:w8.cell? ⟨w.heap.size+1,3,none⟩=some (.slice none 0 0):=cl_kept hb (by with_reducible (repeat (first | assumption | refine dr_old ?_ | refine al_old ?_)));have k3_8:w8.frozen? ⟨w.heap.size+1,3,none⟩=false:=(hb.frozen (by dsimp only;first | exact zD | (simp;exact zD))).trans (by first | exact k3 | (simp [go_sem,k3];done));have d4_8:w8.cell? ⟨w.heap.size+1,4,none⟩=some (.slice none 0 0):=cl_kept hb (by with_reducible (repeat (first | assumption | refine dr_old ?_ | refine al_old ?_)));have k4_8:w8.frozen? ⟨w.heap.size+1,4,none⟩=false:=(hb.frozen (by dsimp only;first | exact zD | (simp;exact zD))).trans (by first | exact k4 | (simp [go_sem,k4];done));have hq:Below wr.heap.size wr w8:=(by with_reducible (first | exact hb | exact bl_undrew hb | exact bl_undrew (bl_undrew hb)));have HQ8:Hid (Below wr.heap.size wr w8):=hq;have zs1:w.heap.size+1<w8.heap.size:=World.block_lt_of_cell? _ _ d0_8;have zs2:w.heap.size+1+1<w8.heap.size:=World.block_lt_of_cell? _ _ c0_8;clear hb hq))
   all_goals
    go_wp2
    refine bodyPost_ret (v:=.tuple #[.agg #[.slice ad L.length cc,.map (some ra),.map (some rk),.slice (some ⟨gm,0,none⟩) L.length cm,.slice pa L.length pc],.bool true]) (by simp [results,Tryz.results66,go_sem, *]) rfl ⟨pa,pc,rfl, ?_, ?_⟩
    ·have hT8:=HT.out.kept HQ8.out
     with_reducible repeat' (first | exact hT8 | refine TRow.far ?_ ?_ | refine TRow.dr ?_)
     all_goals (intro g e;have:=HPA.out g e;dsimp only;omega)
    ·with_reducible repeat' (first | exact bl_via HB1.out HQ8.out | refine bl_set ?_ ?_ | refine bl_drew ?_)
     all_goals (dsimp only;omega)
end Go.Proofs.YtgpjaecgkkgehaaGreatDoor
