/- A part of the proof of foldFlat_holds. -/
import Derived.Test.YtgpjaecgkkgehaaGreatDoorQfbf
import Derived.Test.YtgpjaecgkkgehaaGreatDoorQfaz
import Derived.Test.YtgpjaecgkkgehaaGreatDoorQfaw
import Derived.Test.YtgpjaecgkkgehaaGreatDoorQfbe
import Derived.Test.YtgpjaecgkkgehaaGreatDoorQfba
import Derived.Test.YtgpjaecgkkgehaaGreatDoorQfbd
namespace Go.Proofs.YtgpjaecgkkgehaaGreatDoor
open Go.RowKit
theorem out_one {K K':Int} (h:0≤K∧K≤3) (h':0≤K'∧K'≤3) (hx:outX K=outX K') (hy:outY K=outY K'):K=K':=by
 rcases k_four h with rfl | rfl | rfl | rfl <;> rcases k_four h' with rfl | rfl | rfl | rfl <;> simp [outX,outY] at hx hy ⊢
theorem MoveOf_small (m:M6) (t:Int×Int×Int) (w:World) (hm:GoodM m 48000) (hb:(0≤t.1∧t.1≤8)∧(0≤t.2.1∧t.2.1≤8)∧(0≤t.2.2∧t.2.2≤3)) :
  Calls Tryz.prog 57 #[.agg #[.int .i64 m.1,.int .i64 m.2.1,.int .i64 m.2.2.1,.int .i64 m.2.2.2.1,.int .i64 m.2.2.2.2.1,.int .i64 m.2.2.2.2.2],.agg #[.int .i64 t.1,.int .i64 t.2.1,.int .i64 t.2.2]] w fun r w'=>r=.returned (.agg #[.int .i64 (mvt m t).1,.int .i64 (mvt m t).2.1,.int .i64 (mvt m t).2.2])∧Below w.heap.size w w':=by
 obtain ⟨a,b,c,d,e,f⟩:=m
 obtain ⟨x,y,k⟩:=t
 obtain ⟨h1,h2,h3,h4,h5,h6,h7,h8⟩:=mvt_facts hm hb.1 hb.2.1 hb.2.2 (X:=(mvt (a,b,c,d,e,f) (x,y,k)).1) (Y:=(mvt (a,b,c,d,e,f) (x,y,k)).2.1) (K:=(mvt (a,b,c,d,e,f) (x,y,k)).2.2) rfl
 obtain ⟨X,Y,K,q1,q2,r1,r2,g1,g2,g3,g4,g5,g6,g7,g8,g9,g10⟩:=move_data a b c d e f x y k h8 h7
 have e1:(mvt (a,b,c,d,e,f) (x,y,k)).1=X:=by have:=h1.symm.trans g1;omega
 have e2:(mvt (a,b,c,d,e,f) (x,y,k)).2.1=Y:=by have:=h2.symm.trans g2;omega
 have e3:(mvt (a,b,c,d,e,f) (x,y,k)).2.2=K:=out_one h3 g3 (h4.symm.trans g4) (h5.symm.trans g5)
 have hsm:Sm a b c d:=by
  rcases map_lin h8 with ⟨ha,rfl,rfl,hd⟩ | ⟨rfl,hb',hc,rfl⟩
  ·rcases ha with rfl | rfl <;> rcases hd with rfl | rfl <;> (unfold Sm;omega)
  ·rcases hb' with rfl | rfl <;> rcases hc with rfl | rfl <;> (unfold Sm;omega)
 have hk:=hm.2
 dsimp only at hk
 have:=moveOf_any a b c d e f x y k X Y K q1 q2 r1 r2 w hsm ⟨by omega,by omega⟩ h7 ⟨⟨g1,g2⟩,by have:=hb.1;dsimp only at this;omega,by have:=hb.2.1;dsimp only at this;omega⟩ g6 g7 g8 g9 g10
 rw [e1,e2,e3]
 exact this
theorem lessTri_any (a b c p q r:Int) (w:World):Calls Tryz.prog 56 #[.agg #[.int .i64 a,.int .i64 b,.int .i64 c],.agg #[.int .i64 p,.int .i64 q,.int .i64 r]] w fun e w'=>e=.returned (.bool (ltB (a,b,c) (p,q,r)))∧Below w.heap.size w w':=by
 by_cases h1:b=q
 ·subst h1
  have q1:(b != b)=false:=by simp
  by_cases h2:a=p
  ·subst h2
   have q2:(a != a)=false:=by simp
   go_enter Tryz.func56,Tryz.ntmps56
   go_wp2
   go_ret
   exact ⟨ret_bool (by simp [ltB]),bl_alloc (bl_alloc (bl_refl _))⟩
  ·have q2:(a != p)=true:=by simpa using h2
   have HE:Hid (ltB (a,b,c) (p,b,r)=decide (a<p)):=by
    have:ltB (a,b,c) (p,b,r)=decide (a<p):=by
     rw [Bool.eq_iff_iff]
     simp [ltB,h2]
    exact this
   clear h2
   go_enter Tryz.func56,Tryz.ntmps56
   go_wp2
   go_ret
   exact ⟨ret_bool HE.out.symm,bl_alloc (bl_alloc (bl_refl _))⟩
 ·have q1:(b != q)=true:=by simpa using h1
  have HE:Hid (ltB (a,b,c) (p,q,r)=decide (b<q)):=by
   have:ltB (a,b,c) (p,q,r)=decide (b<q):=by
    rw [Bool.eq_iff_iff]
    simp [ltB,h1]
   exact this
  clear h1
  go_enter Tryz.func56,Tryz.ntmps56
  go_wp2
  go_ret
  exact ⟨ret_bool HE.out.symm,bl_alloc (bl_alloc (bl_refl _))⟩
open Go.RowKit
def rowS (R:List ((Int×Int×Int)×Value)):List Value:=R.flatMap fun s=>[.int .i64 s.1.1,.int .i64 s.1.2.1,.int .i64 s.1.2.2,s.2]
theorem rowS_add (l m:List ((Int×Int×Int)×Value)):rowS (l ++ m)=rowS l ++ rowS m:=by simp [rowS]
theorem rowS_len (R:List ((Int×Int×Int)×Value)):(rowS R).length=R.length*4:=by
 induction R with
 | nil=>rfl
 | cons s r ih =>
  have:rowS (s :: r)=[Value.int .i64 s.1.1,.int .i64 s.1.2.1,.int .i64 s.1.2.2,s.2] ++ rowS r:=by simp [rowS]
  rw [this,List.length_append,ih]
  simp
  omega
theorem rowS_at:∀ (R:List ((Int×Int×Int)×Value)) (i:Nat) (h:i<R.length),(rowS R)[i*4]?=some (.int .i64 R[i].1.1)∧(rowS R)[i*4+1]?=some (.int .i64 R[i].1.2.1)∧(rowS R)[i*4+2]?=some (.int .i64 R[i].1.2.2)∧(rowS R)[i*4+3]?=some R[i].2
 | s :: r,0,_=>by simp [rowS]
 | s :: r,i+1,h=>by
  have ih:=rowS_at r i (by simpa using h)
  have e:rowS (s :: r)=[Value.int .i64 s.1.1,.int .i64 s.1.2.1,.int .i64 s.1.2.2,s.2] ++ rowS r:=by simp [rowS]
  have f:∀ k,(rowS (s :: r))[(i+1)*4+k]?=(rowS r)[i*4+k]?:=fun k=>by
   rw [e,List.getElem?_append_right (by simp;omega)]
   congr 1
   simp
   omega
  have f0:=f 0
  rw [Nat.add_zero,Nat.add_zero] at f0
  simp only [List.getElem_cons_succ]
  exact ⟨f0.trans ih.1,(f 1).trans ih.2.1,(f 2).trans ih.2.2.1,(f 3).trans ih.2.2.2⟩
theorem rowS_set:∀ (R:List ((Int×Int×Int)×Value)) (i:Nat) (t:Int×Int×Int) (u:Value),i<R.length→((((rowS R).set (i*4) (.int .i64 t.1)).set (i*4+1) (.int .i64 t.2.1)).set (i*4+2) (.int .i64 t.2.2)).set (i*4+3) u=rowS (R.set i (t,u))
 | s :: r,0,t,u,_=>by simp [rowS]
 | s :: r,i+1,t,u,h=>by
  have ih:=rowS_set r i t u (by simpa using h)
  have e:rowS (s :: r)=[Value.int .i64 s.1.1,.int .i64 s.1.2.1,.int .i64 s.1.2.2,s.2] ++ rowS r:=by simp [rowS]
  have e2:rowS ((s :: r).set (i+1) (t,u))=[Value.int .i64 s.1.1,.int .i64 s.1.2.1,.int .i64 s.1.2.2,s.2] ++ rowS (r.set i (t,u)):=by simp [rowS]
  have st:∀ (k:Nat) (x:Value) (l:List Value),([Value.int .i64 s.1.1,.int .i64 s.1.2.1,.int .i64 s.1.2.2,s.2] ++ l).set (4+k) x=[Value.int .i64 s.1.1,.int .i64 s.1.2.1,.int .i64 s.1.2.2,s.2] ++ l.set k x:=fun k x l=>by
   rw [Nat.add_comm]
   rfl
  rw [e2,← ih,e,show (i+1)*4=4+i*4 by omega,st,show 4+i*4+1=4+(i*4+1) by omega,st,show 4+i*4+2=4+(i*4+2) by omega,st,show 4+i*4+3=4+(i*4+3) by omega,st]
theorem set_same {l:List Value} {n:Nat} {a:Value} (h:l[n]?=some a):l.set n a=l:=by
 apply List.ext_getElem?
 intro m
 rw [List.getElem?_set]
 by_cases e:n=m
 ·subst e
  have hl:n<l.length:=by
   rcases Nat.lt_or_ge n l.length with q | q
   ·exact q
   ·rw [List.getElem?_eq_none q] at h
    cases h
  rw [if_pos rfl,if_pos hl,h]
 ·rw [if_neg e]
theorem rowS_set3 (R:List ((Int×Int×Int)×Value)) (i:Nat) (u:Value) (h:i<R.length):(rowS R).set (i*4+3) u=rowS (R.set i (R[i].1,u)):=by
 rw [← rowS_set R i R[i].1 u h]
 obtain ⟨h0,h1,h2,_⟩:=rowS_at R i h
 rw [set_same h0,set_same h1,set_same h2]
def TrisAt (w:World) (v:Value) (l:List (Int×Int×Int)):Prop := ∃ a c,v=.slice a l.length c∧TRow w a l
theorem TrisAt.kept {w w':World} {v:Value} {l:List (Int×Int×Int)} (h:TrisAt w v l) (hb:Below w.heap.size w w'):TrisAt w' v l:=by
 obtain ⟨a,c,e,ht⟩:=h
 exact ⟨a,c,e,ht.kept hb⟩
theorem TRow.grownN {w w':World} {pa:Option Addr} {l:List (Int×Int×Int)} {row:Option Nat} (h:TRow w pa l) (hg:w.grownBy w' row) (hn:∀ g,pa=some ⟨g,0,none⟩→some g≠row):TRow w' pa l:=fun i hi=>by
 obtain ⟨g,e,c0,c1,c2⟩:=h i hi
 have hne:=hn g e
 exact ⟨g,e,hg.cell c0 hne,hg.cell c1 hne,hg.cell c2 hne⟩
theorem TrisAt.grown {w w':World} {v:Value} {l:List (Int×Int×Int)} {row:Option Nat} (h:TrisAt w v l) (hg:w.grownBy w' row) (hn:∀ g,v.ownBlock=some g→some g≠row):TrisAt w' v l:=by
 obtain ⟨a,c,rfl,ht⟩:=h
 exact ⟨a,c,rfl,ht.grownN hg fun g e=>hn g (by rw [e];rfl)⟩
structure HSt (w0 wx:World) (B:Nat) (p0 p1 p2 p3 p4 v:Value) (R:List ((Int×Int×Int)×Value)) (S:List ((Int×Int×Int)×List (Int×Int×Int))):Prop where
 c0:wx.cell? ⟨B,0,none⟩=some p0
 c1:wx.cell? ⟨B,1,none⟩=some p1
 c2:wx.cell? ⟨B,2,none⟩=some p2
 c3:wx.cell? ⟨B,3,none⟩=some p3
 c4:wx.cell? ⟨B,4,none⟩=some p4
 c5:wx.cell? ⟨B,5,none⟩=some v
 f5:wx.frozen? ⟨B,5,none⟩=false
 own:wx.ownsRow (B+1) 102 4 v R.length (rowS R)
 apart:∀ s∈R,∀ g,s.2.ownBlock=some g→B<g∧g<wx.heap.size∧v.ownBlock≠some g
 len:R.length=S.length
 hold:∀ i (h:i<R.length) (h':i<S.length),R[i].1=S[i].1∧TrisAt wx R[i].2 S[i].2
 low:w0.heap.size≤B
 bel:Below w0.heap.size w0 wx
theorem HSt.lt {w0 wx:World} {B:Nat} {p0 p1 p2 p3 p4 v:Value} {R:List ((Int×Int×Int)×Value)} {S:List ((Int×Int×Int)×List (Int×Int×Int))} (h:HSt w0 wx B p0 p1 p2 p3 p4 v R S):B<wx.heap.size:=World.block_lt_of_cell? _ _ h.c0
theorem HSt.kept {w0 wx w':World} {B:Nat} {p0 p1 p2 p3 p4 v:Value} {R:List ((Int×Int×Int)×Value)} {S:List ((Int×Int×Int)×List (Int×Int×Int))} (h:HSt w0 wx B p0 p1 p2 p3 p4 v R S) (hb:Below wx.heap.size wx w'):HSt w0 w' B p0 p1 p2 p3 p4 v R S :=
 ⟨cl_kept hb h.c0,cl_kept hb h.c1,cl_kept hb h.c2,cl_kept hb h.c3,cl_kept hb h.c4,cl_kept hb h.c5,(hb.frozen h.lt).trans h.f5,own_below h.own hb,fun s hs g hg=>by
  have:=h.apart s hs g hg
  exact ⟨this.1,Nat.lt_of_lt_of_le this.2.1 hb.size,this.2.2⟩,h.len,fun i hi hi'=>⟨(h.hold i hi hi').1,(h.hold i hi hi').2.kept hb⟩,h.low,bl_via h.bel hb⟩
theorem HSt.more {w0 wx w2:World} {B:Nat} {p0 p1 p2 p3 p4 v v':Value} {R:List ((Int×Int×Int)×Value)} {S:List ((Int×Int×Int)×List (Int×Int×Int))} (h:HSt w0 wx B p0 p1 p2 p3 p4 v R S) (hg:wx.grownBy w2 v.ownBlock) (ho:w2.ownsRow (B+1) 102 4 v' (R.length+1) (rowS R ++ [.int .i64 0,.int .i64 0,.int .i64 0,.slice none 0 0])) (hv:v'.ownBlock=v.ownBlock∨v'.ownBlock=some wx.heap.size) :
  HSt w0 (w2.setCell ⟨B,5,none⟩ v') B p0 p1 p2 p3 p4 v' (R ++ [((0,0,0),.slice none 0 0)]) (S ++ [((0,0,0),[])]):=by
 have hn:some B≠v.ownBlock:=fun e=>by
  have:=own_base h.own B e.symm
  omega
 have hn':v'.ownBlock≠some B:=fun e=>by
  have:=own_base ho B e
  omega
 have g1:=h.bel.grown hg h.bel.size (fun k hk=>by have:=own_base h.own k hk;have:=h.low;omega)
 have gB:=grown_cell w2 B 5 v'
 have c5:=hg.cell h.c5 hn
 have f5:w2.frozen? ⟨B,5,none⟩=false:=(World.frozen?_of_block (a:=⟨B,5,none⟩) (hg.block B h.lt hn)).trans h.f5
 refine ⟨st_else (hg.cell h.c0 hn) (by omega),st_else (hg.cell h.c1 hn) (by omega),st_else (hg.cell h.c2 hn) (by omega),st_else (hg.cell h.c3 hn) (by omega),st_else (hg.cell h.c4 hn) (by omega),st_same c5,by simp [go_sem,f5], ?_, ?_,by simp [h.len], ?_,h.low,g1.setCell (p:=⟨B,5,none⟩) h.low _⟩
 ·rw [rowS_add,List.length_append,List.length_singleton]
  exact ho.kept gB (Or.inr hn')
 ·intro s hs g hgb
  rcases List.mem_append.1 hs with hs | hs
  ·obtain ⟨a1,a2,a3⟩:=h.apart s hs g hgb
   refine ⟨a1,Nat.lt_of_lt_of_le a2 (Nat.le_trans hg.size gB.size),fun e=>?_⟩
   rcases hv with e2 | e2
   ·exact a3 (e2 ▸ e)
   ·rw [e2] at e
    cases e
    omega
  ·simp at hs
   subst hs
   simp [Value.ownBlock] at hgb
 ·intro i hi hi'
  by_cases hiR:i<R.length
  ·have hiS:i<S.length:=by rw [← h.len];exact hiR
   obtain ⟨e1,e2⟩:=h.hold i hiR hiS
   have q1:(R ++ [((0,0,0),Value.slice none 0 0)])[i]=R[i]:=List.getElem_append_left hiR
   have q2:(S ++ [((0,0,0),[])])[i]=S[i]:=List.getElem_append_left hiS
   rw [q1,q2]
   refine ⟨e1,(e2.grown hg fun g e=>?_).grown gB fun g e=>?_⟩
   ·exact fun e3=>(h.apart _ (List.getElem_mem hiR) g e).2.2 e3.symm
   ·have:=(h.apart _ (List.getElem_mem hiR) g e).1
    intro e3
    cases e3
    omega
  ·have e1:i=R.length:=by simp at hi;omega
   have e2:i=S.length:=by rw [e1,h.len]
   have q1:(R ++ [((0,0,0),Value.slice none 0 0)])[i]=((0,0,0),Value.slice none 0 0):=by
    rw [List.getElem_append_right (by omega)]
    simp [e1]
   have q2:(S ++ [((0,0,0),[])])[i]=((0,0,0),[]):=by
    rw [List.getElem_append_right (by omega)]
    simp [e2]
   rw [q1,q2]
   exact ⟨rfl,none,0,rfl,fun i hi=>by simp at hi⟩
theorem HSt.put {w0 wx w2:World} {B gv cv:Nat} {p0 p1 p2 p3 p4:Value} {R:List ((Int×Int×Int)×Value)} {S:List ((Int×Int×Int)×List (Int×Int×Int))} (h:HSt w0 wx B p0 p1 p2 p3 p4 (.slice (some ⟨gv,0,none⟩) R.length cv) R S) {i:Nat} (_hi:i<R.length) {t:Int×Int×Int} {u:Value} {l:List (Int×Int×Int)}
  (hg:wx.grownBy w2 (some gv)) (ho:w2.ownsRow (B+1) 102 4 (.slice (some ⟨gv,0,none⟩) R.length cv) R.length (rowS (R.set i (t,u)))) (hu:∀ g,u.ownBlock=some g→B<g∧g<wx.heap.size∧g≠gv) (hT:TrisAt wx u l) :
  HSt w0 w2 B p0 p1 p2 p3 p4 (.slice (some ⟨gv,0,none⟩) R.length cv) (R.set i (t,u)) (S.set i (t,l)):=by
 have hB:B+1≤gv:=own_base h.own gv rfl
 have hn:some B≠some gv:=fun e=>by
  cases e
  omega
 refine ⟨hg.cell h.c0 hn,hg.cell h.c1 hn,hg.cell h.c2 hn,hg.cell h.c3 hn,hg.cell h.c4 hn,hg.cell h.c5 hn,(World.frozen?_of_block (a:=⟨B,5,none⟩) (hg.block B h.lt hn)).trans h.f5,by rw [List.length_set];exact ho, ?_,by simp [h.len], ?_,h.low,h.bel.grown hg h.bel.size (fun k hk=>by cases hk;have:=h.low;omega)⟩
 ·intro s hs g hgb
  rcases List.mem_or_eq_of_mem_set hs with hs | hs
  ·obtain ⟨a1,a2,a3⟩:=h.apart s hs g hgb
   exact ⟨a1,Nat.lt_of_lt_of_le a2 hg.size,a3⟩
  ·subst hs
   obtain ⟨a1,a2,a3⟩:=hu g hgb
   refine ⟨a1,Nat.lt_of_lt_of_le a2 hg.size,fun e=>a3 ?_⟩
   cases e
   rfl
 ·intro j hj hj'
  rw [List.getElem_set,List.getElem_set]
  by_cases e:i=j
  ·rw [if_pos e,if_pos e]
   exact ⟨rfl,hT.grown hg fun g eg e2=>(hu g eg).2.2 (by cases e2;rfl)⟩
  ·rw [if_neg e,if_neg e]
   have hjR:j<R.length:=by simpa using hj
   have hjS:j<S.length:=by simpa using hj'
   obtain ⟨e1,e2⟩:=h.hold j hjR hjS
   exact ⟨e1,e2.grown hg fun g eg e3=>(h.apart _ (List.getElem_mem hjR) g eg).2.2 (by rw [e3];rfl)⟩
end Go.Proofs.YtgpjaecgkkgehaaGreatDoor
namespace Go.Proofs.YtgpjaecgkkgehaaGreatDoor
open Go.RowKit Go.Shelf Go.ChangeMaps
def Upw (h:Nat→Int) (R:List Nat):Prop:=R.Pairwise (fun a b=>¬ h b<h a)
def plcA (pl:List (Int×Int×Int)) (k:Nat):Int×Int×Int:=pl.getD k (0,0,0)
def NW (w:World) (g:Nat) (R:List Nat):Prop := ∀ i (h:i<R.length),w.cell? ⟨g,i,none⟩=some (.int .i64 ((R[i]:Nat):Int))∧w.frozen? ⟨g,i,none⟩=false
theorem NW.kept {w w':World} {g:Nat} {R:List Nat} (h:NW w g R) (hb:Below w.heap.size w w'):NW w' g R:=fun i hi=>by
 obtain ⟨h1,h2⟩:=h i hi
 exact ⟨cl_kept hb h1,(hb.frozen (World.block_lt_of_cell? _ _ h1)).trans h2⟩
theorem NW.grown {w w':World} {g:Nat} {R:List Nat} {row:Option Nat} (h:NW w g R) (hg:w.grownBy w' row) (hn:some g≠row):NW w' g R:=fun i hi=>by
 obtain ⟨h1,h2⟩:=h i hi
 exact ⟨hg.cell h1 hn,(World.frozen?_of_block (a:=⟨g,i,none⟩) (hg.block g (World.block_lt_of_cell? _ _ h1) hn)).trans h2⟩
def SortsN (w:World) (N:Nat) (rv:Value) (h:Nat→Int):Prop := ∀ (W:World) (g cap:Nat) (R:List Nat),Below w.heap.size w W→w.heap.size≤g→R≠[]→R.length≤300→(∀ j∈R,j<N)→NW W g R →
 Calls Tryz.prog 110 #[.slice (some ⟨g,0,none⟩) R.length cap,.func (.func 111) #[rv] #[]] W fun e w'=>e=.returned (.tuple #[])∧∃ R':List Nat,R'.Perm R∧Upw h R'∧NW w' g R'∧W.grownBy w' (some g)
def Gk (pl:List (Int×Int×Int)) (e:Int×Int×Int):List Nat:=(List.range pl.length).filter fun k=>decide (pl.getD k (0,0,0)=e)
theorem Gn_eq (pl:List (Int×Int×Int)):∀ i e,Gn pl i e=((List.range i).filter fun k=>decide (pl.getD k (0,0,0)=e)).map (fun k:Nat=>(k:Int))
 | 0,e=>by simp [Gn]
 | i+1,e=>by
  unfold Gn
  rw [List.range_succ,List.filter_append,List.map_append,← Gn_eq pl i e]
  by_cases q:e=pl.getD i (0,0,0)
  ·rw [if_pos q,← q]
   simp [q]
  ·rw [if_neg q]
   have q2:¬ pl.getD i (0,0,0)=e:=fun h=>q h.symm
   simp only [List.filter_cons,List.filter_nil,q2,decide_false,Bool.false_eq_true,if_false,List.map_nil,List.append_nil]
theorem Gk_mem {pl:List (Int×Int×Int)} {e:Int×Int×Int} {k:Nat}:k∈Gk pl e↔k<pl.length∧pl.getD k (0,0,0)=e:=by
 unfold Gk
 rw [List.mem_filter,List.mem_range,decide_eq_true_eq]
theorem Gk_len (pl:List (Int×Int×Int)) (e:Int×Int×Int):(Gk pl e).length≤pl.length:=by
 have:=List.length_filter_le (fun k=>decide (pl.getD k (0,0,0)=e)) (List.range pl.length)
 rw [List.length_range] at this
 exact this
theorem Gk_nodup (pl:List (Int×Int×Int)) (e:Int×Int×Int):(Gk pl e).Nodup:=List.Pairwise.filter _ List.nodup_range
theorem own_nw {w:World} {base g c:Nat} {pl:List (Int×Int×Int)} {e:Int×Int×Int} (h:w.ownsRow base 3 1 (.slice (some ⟨g,0,none⟩) (Gn pl pl.length e).length c) (Gn pl pl.length e).length ((Gn pl pl.length e).map (Value.int .i64))):NW w g (Gk pl e):=fun i hi=>by
 have hl:(Gn pl pl.length e).length=(Gk pl e).length:=by rw [Gn_eq,List.length_map];rfl
 have hc:=h.cellAt i (by omega)
 have e1:(Gn pl pl.length e)=(Gk pl e).map (fun k:Nat=>(k:Int)):=Gn_eq pl pl.length e
 refine ⟨?_, ?_⟩
 ·rw [hc,e1]
  simp [hi]
 ·rcases h.2 with ⟨h1,_⟩ | ⟨g',cap,cur,h1,_,h3,_⟩
  ·cases h1
  ·cases h1
   simp [World.frozen?,h3]
theorem inf98:(Tryz.prog.info? 102).map (fun i=>(i.zero,i.size,i.bytes))=some (some (.agg #[.int .i64 0,.int .i64 0,.int .i64 0,.slice none 0 0]),4,48):=by kernel_rfl
theorem cell_four (w:World) (a b c d:Value) (T:TypeId):∀ j u,([a,b,c,d])[j]?=some u→(w.alloc (.cells #[a,b,c,d] T)).cell? ((⟨w.heap.size,0,none⟩:Addr).add j)=some u:=by
 intro j u hu
 match j,hu with
 | 0,hu=>simp at hu;subst hu;simp [Addr.add,go_sem]
 | 1,hu=>simp at hu;subst hu;simp [Addr.add,go_sem]
 | 2,hu=>simp at hu;subst hu;simp [Addr.add,go_sem]
 | 3,hu=>simp at hu;subst hu;simp [Addr.add,go_sem]
structure Far (wA:World) (z g:Nat) (S:List ((Int×Int×Int)×Nat×Nat)):Prop where
 lt:g<z
 s:∀ s∈S,s.2.1<z∧wA.heap.size≤s.2.1∧s.2.1≠g
 far:S.Pairwise (fun x y=>x.2.1≠y.2.1)
theorem Far.ne {wA:World} {z g:Nat} {S:List ((Int×Int×Int)×Nat×Nat)} (h:Far wA z g S) {i k:Nat} (hi:i<S.length) (hk:k<S.length) (hne:i≠k):S[i].2.1≠S[k].2.1:=by
 have hp:=List.pairwise_iff_getElem.1 h.far
 rcases Nat.lt_or_ge i k with q | q
 ·exact hp i k hi hk q
 ·exact (hp k i hk hi (by omega)).symm
structure STW (wA wx:World) (z g:Nat) (v:Value) (L pl:List (Int×Int×Int)) (h:Nat→Int) (S:List ((Int×Int×Int)×Nat×Nat)) (k:Nat) (H:List ((Int×Int×Int)×List Nat)) (R:List ((Int×Int×Int)×Value)):Prop where
 row:∀ i (hi:i<S.length),wx.cell? ⟨g,i,none⟩=some (.slice (some ⟨S[i].2.1,0,none⟩) (Gk pl S[i].1).length S[i].2.2)
 left:∀ i (hi:i<S.length),k≤i→NW wx S[i].2.1 (Gk pl S[i].1)
 own:wx.ownsRow z 102 4 v R.length (rowS R)
 len:R.length=k∧H.length=k
 tris:∀ i (hi:i<R.length) (hj:i<H.length),R[i].1=H[i].1∧TrisAt wx R[i].2 (tgn L H[i].2)
 off:∀ s∈R,∀ q,s.2.ownBlock=some q→z≤q∧q<wx.heap.size∧v.ownBlock≠some q
 done:∀ i (hi:i<H.length) (hj:i<S.length),H[i].1=S[i].1∧H[i].2.Perm (Gk pl S[i].1)∧Upw h H[i].2
 b:Below wA.heap.size wA wx
 zz:z≤wx.heap.size
theorem STW.next {wA wx w2 w8 W3:World} {z g k gq cap n8 c8:Nat} {a8:Option Addr} {v:Value} {o:Obj} {L pl:List (Int×Int×Int)} {hh:Nat→Int} {S:List ((Int×Int×Int)×Nat×Nat)} {H:List ((Int×Int×Int)×List Nat)} {R:List ((Int×Int×Int)×Value)} {R':List Nat} (h:STW wA wx z g v L pl hh S k H R) (hk:k<S.length) (hF:Far wA z g S) (hzA:wA.heap.size≤z)
  (hg2:wx.grownBy w2 (some S[k].2.1)) (hp:R'.Perm (Gk pl S[k].1)) (hs:Upw hh R') (h8:Below w2.heap.size w2 w8) (ht:TRow w8 a8 (tgn L R')) (hn8:n8=(tgn L R').length) (hf:∀ q,a8=some ⟨q,0,none⟩→w2.heap.size≤q∧q<w8.heap.size)
  (hgrow:(w8.alloc o).grownBy W3 v.ownBlock) (hown:W3.ownsRow z 102 4 (.slice (some ⟨gq,0,none⟩) (R.length+1) cap) (R.length+1) (rowS R ++ [.int .i64 S[k].1.1,.int .i64 S[k].1.2.1,.int .i64 S[k].1.2.2,.slice a8 n8 c8])) (hat:v.ownBlock=some gq∨gq=w8.heap.size+1) (hne:R'≠[]) :
  STW wA W3 z g (.slice (some ⟨gq,0,none⟩) (R.length+1) cap) L pl hh S (k+1) (H ++ [(S[k].1,R')]) (R ++ [(S[k].1,.slice a8 n8 c8)]):=by
 have z2:wx.heap.size≤w2.heap.size:=hg2.size
 have z8:=h8.size
 have z3:=hgrow.size
 have zz:=h.zz
 rw [World.size_alloc] at z3
 have hvz:∀ q,v.ownBlock=some q→z≤q∧q<wx.heap.size:=fun q e=>h.own.lt q e
 have hSk:=hF.s S[k] (List.getElem_mem hk)
 have k8:Below w2.heap.size w2 (w8.alloc o):=bl_alloc h8
 -- what lies below z in a block other than the one that was sorted
 have keep:∀ b q u,b<z→b≠S[k].2.1→wx.cell? ⟨b,q,none⟩=some u→W3.cell? ⟨b,q,none⟩=some u:=fun b q u hb hne hc =>
  hgrow.cell (cl_kept k8 (hg2.cell hc (by simpa using hne))) (fun e=>by have:=(hvz _ e.symm).1;dsimp only at this;omega)
 have hn3:∀ b R0,b<z→b≠S[k].2.1→NW wx b R0→NW W3 b R0:=fun b R0 hb hne hN =>
  ((hN.grown hg2 (by simpa using hne)).kept k8).grown hgrow (fun e=>by have:=(hvz _ e.symm).1;omega)
 refine ⟨fun i hi=>keep _ _ _ hF.lt hSk.2.2.symm (h.row i hi),fun i hi hki=>?_, ?_,⟨by simp [h.len.1],by simp [h.len.2]⟩,fun i hi hj=>?_,fun s hs q hq=>?_,fun i hi hj=>?_, ?_,by omega⟩
 ·exact hn3 _ _ (hF.s _ (List.getElem_mem hi)).1 (hF.ne hi hk (by omega)) (h.left i hi (by omega))
 ·rw [List.length_append,rowS_add]
  exact hown
 ·by_cases q:i<R.length
  ·have q2:i<H.length:=by rw [h.len.2,← h.len.1];exact q
   obtain ⟨t1,t2⟩:=h.tris i q q2
   rw [List.getElem_append_left q,List.getElem_append_left q2]
   refine ⟨t1, ?_⟩
   have o1:=h.off R[i] (List.getElem_mem q)
   have t3:=t2.grown hg2 (fun b e=>by
    have:=(o1 b e).1
    intro e2
    simp at e2
    omega)
   exact (t3.kept k8).grown hgrow (fun b e e2=>(o1 b e).2.2 e2.symm)
  ·have q3:i=R.length:=by rw [List.length_append,List.length_singleton] at hi;omega
   have q4:i=H.length:=by rw [q3,h.len.1,h.len.2]
   have e1:(R ++ [(S[k].1,Value.slice a8 n8 c8)])[i]=(S[k].1,Value.slice a8 n8 c8):=by
    rw [List.getElem_append_right (by omega)]
    simp
   have e2:(H ++ [(S[k].1,R')])[i]=(S[k].1,R'):=by
    rw [List.getElem_append_right (by omega)]
    simp
   rw [e1,e2]
   refine ⟨rfl,a8,c8,by rw [hn8], ?_⟩
   refine (ht.kept (bl_alloc (bl_refl _))).grownN hgrow (fun b e e3=>?_)
   have f1:=(hf b e).1
   have f2:=(hvz b e3.symm).2
   omega
 ·have hgb:z≤gq∧gq<W3.heap.size:=hown.lt gq rfl
  rcases List.mem_append.1 hs with hs | hs
  ·obtain ⟨o1,o2,o3⟩:=h.off s hs q hq
   refine ⟨o1,by omega,fun e=>?_⟩
   simp only [Value.ownBlock,Option.some.injEq] at e
   rcases hat with q1 | q1
   ·exact o3 (by rw [q1,e])
   ·omega
  ·simp at hs
   subst hs
   obtain ⟨q8,e8,_⟩:=ht 0 (by simpa [tgn] using List.length_pos_iff.2 hne)
   obtain ⟨f1,f2⟩:=hf q8 e8
   rw [e8] at hq
   simp only [Value.ownBlock,Option.some.injEq] at hq ⊢
   subst hq
   refine ⟨by omega,by omega,fun e=>?_⟩
   have e9:gq=q8:=by simpa using e
   rcases hat with q1 | q1
   ·have:=(hvz gq q1).2
    omega
   ·omega
 ·by_cases q:i<H.length
  ·rw [List.getElem_append_left q]
   exact h.done i q hj
  ·have q3:i=H.length:=by rw [List.length_append,List.length_singleton] at hi;omega
   have e2:(H ++ [(S[k].1,R')])[i]=(S[k].1,R'):=by
    rw [List.getElem_append_right (by omega)]
    simp
   have q4:i=k:=by rw [q3,h.len.2]
   rw [e2]
   subst q4
   exact ⟨rfl,hp,hs⟩
 ·have b2:Below wA.heap.size wA w2:=h.b.grown hg2 h.b.size (fun r e=>by cases e;exact hSk.2.1)
  have b8:Below wA.heap.size wA (w8.alloc o):=b2.trans (k8.mono b2.size)
  exact b8.grown hgrow b8.size (fun r e=>by have:=(hvz r e).1;omega)
end Go.Proofs.YtgpjaecgkkgehaaGreatDoor
