/- A part of the proof of stackLays_holds. -/
import Derived.Test.YtgpjaecgkkgehaaGreatDoorQlba
import Derived.Test.YtgpjaecgkkgehaaGreatDoorQlbi
import Derived.Test.YtgpjaecgkkgehaaGreatDoorQlat
import Derived.Test.YtgpjaecgkkgehaaGreatDoorQlbd
import Derived.Test.YtgpjaecgkkgehaaGreatDoorQlad
import Derived.Test.YtgpjaecgkkgehaaGreatDoorQlaj
import Derived.Test.YtgpjaecgkkgehaaGreatDoorQlao
import Derived.Test.YtgpjaecgkkgehaaGreatDoorQlaq
import Derived.Deep.AppendLies
import Derived.Laws.OwnMore
import Derived.Test.YtgpjaecgkkgehaaGreatDoorQlag
import Derived.Test.YtgpjaecgkkgehaaGreatDoorQlac
import Derived.Test.YtgpjaecgkkgehaaGreatDoorQlax
import Derived.Test.YtgpjaecgkkgehaaGreatDoorQlan
import Derived.Test.YtgpjaecgkkgehaaGreatDoorQlam
import Derived.Test.YtgpjaecgkkgehaaGreatDoorQlbc
import Derived.Test.YtgpjaecgkkgehaaGreatDoorQlbh
import Derived.Test.YtgpjaecgkkgehaaGreatDoorQlay
import Derived.Maps.AppendAt
import Derived.Test.YtgpjaecgkkgehaaGreatDoorQlas
set_option maxRecDepth 100000
set_option maxHeartbeats 40000000
namespace Go.Proofs.YtgpjaecgkkgehaaGreatDoor
open Go.RowKit Go.ChangeMaps
def BRow (w:World) (g n:Nat) (K:List Nat):Prop := ∀i,i<n→w.cell? ⟨g,i,none⟩=some (.bool (decide (i∈K)))∧w.frozen? ⟨g,i,none⟩=false
theorem BRow.grown {w w':World} {g n:Nat} {K:List Nat} {row:Option Nat} (h:BRow w g n K) (hg:w.grownBy w' row) (hne:some g≠row):BRow w' g n K:=fun i hi =>
 ⟨hg.cell (h i hi).1 hne,(World.frozen?_of_block (a:=⟨g,i,none⟩) (hg.block g (bk (h i hi).1) hne)).trans (h i hi).2⟩
theorem BRow.set {w:World} {g n:Nat} {K K':List Nat} (h:BRow w g n K) {j:Nat} (hj:j<n) (hK:∀q,q∈K'↔q∈K∨q=j):BRow (w.setCell ⟨g,j,none⟩ (.bool true)) g n K':=fun i hi=>by
 refine ⟨?_,by rw [World.frozen?_setCell];exact (h i hi).2⟩
 by_cases e:i=j
 ·subst e
  rw [World.cell?_setCell_same _ _ _ (h i hi).1]
  simp [hK]
 ·rw [World.cell?_setCell_other _ _ _ _ (by simp<;>omega),(h i hi).1]
  simp [hK,e]
theorem inf4:(Tryz.prog.info? 4).map (fun i=>(i.zero,i.size,i.bytes))=some (some (.bool false),1,1):=by kernel_rfl
theorem bools_made {w:World} {base n g:Nat} (h:w.ownsRow base 4 1 (.slice (some ⟨g,0,none⟩) n n) n (madeCells #[.bool false] n).toList):BRow w g n []:=fun i hi=>by
 have h0:(madeCells #[Value.bool false] n).toList[i]?=some (.bool false):=by
  rw [Array.getElem?_toList]
  unfold madeCells
  have:i % 1=0:=by omega
  simp [hi,this]
 refine ⟨by simpa using (h.cellAt i (by omega)).trans h0,?_⟩
 rcases h.2 with ⟨e1,_⟩|⟨b,cap,cur,e1,_,hb,_⟩
 ·simp at e1
 ·simp only [Value.slice.injEq,Option.some.injEq,Addr.mk.injEq] at e1
  obtain ⟨⟨rfl,_⟩,_⟩:=e1
  simp [World.frozen?,hb]
def AM (w1 wx:World) (g5 g6 n:Nat) (M:Nat→M6) (K:List Nat):Prop:=MRow wx g5 n M∧BRow wx g6 n K∧Bl w1 wx∧(w1.heap.size≤g5∧g5<g6∧g6<wx.heap.size)
theorem AM.kept {w1 wx w':World} {g5 g6 n:Nat} {M:Nat→M6} {K:List Nat} (h:AM w1 wx g5 g6 n M K) (hb:Bl wx w'):AM w1 w' g5 g6 n M K :=
 ⟨h.1.kept hb,h.2.1.grown (Qw hb) (by simp),Qe h.2.2.1 hb,h.2.2.2.1,h.2.2.2.2.1,Nat.lt_of_lt_of_le h.2.2.2.2.2 hb.size⟩
theorem AM.told {w1 wx:World} {g5 g6 n j:Nat} {M:Nat→M6} {K K':List Nat} (h:AM w1 wx g5 g6 n M K) (hj:j<n) (m:M6) (hK:∀q,q∈K'↔q∈K∨q=j):AM w1 ((set6 wx g5 j m).setCell ⟨g6,j,none⟩ (.bool true)) g5 g6 n (fun q=>if q=j then m else M q) K':=by
 obtain ⟨h1,h2,h3,h4,h5,h6⟩:=h
 have q6:=Jc wx g5 j m
 have qz:=q6.size
 have k1:Bl w1 (set6 wx g5 j m):=h3.grown q6 h3.size (fun k hk=>by simp at hk;omega)
 refine ⟨(h1.set6 hj m).grown (Qm _ g6 j _) (by simp;omega),(h2.grown q6 (by simp;omega)).set hj hK,k1.grown (Qm _ g6 j _) k1.size (fun k hk=>by simp at hk;omega),h4,h5,?_⟩
 rw [World.size_setCell]
 omega
def E3 (w:World) (ge:Nat) (t:Int×Int×Int):Prop := ∀k,k<3→w.cell? ⟨ge,k*4,none⟩=some (.int .i64 (edg t k).1)∧w.cell? ⟨ge,k*4+1,none⟩=some (.int .i64 (edg t k).2.1)∧w.cell? ⟨ge,k*4+2,none⟩=some (.int .i64 (edg t k).2.2.1)∧w.cell? ⟨ge,k*4+3,none⟩=some (.int .i64 (edg t k).2.2.2)
theorem Twl.e3 {w:World} {ge:Nat} {x y k:Int} (h:Twl w ge (ue0 x y k) (ue1 x y k) (ue2 x y k) (ue3 x y k) (ue4 x y k) (ue5 x y k) (ue6 x y k) (ue7 x y k) (ue8 x y k) (ue9 x y k) (ue10 x y k) (ue11 x y k)):E3 w ge (x,y,k):=fun n hn=>by
 obtain ⟨h0,h1,h2,h3,h4,h5,h6,h7,h8,h9,h10,h11⟩:=h
 have:n=0∨n=1∨n=2:=by omega
 rcases this with rfl|rfl|rfl
 ·exact ⟨h0,h1,h2,h3⟩
 ·exact ⟨h4,h5,h6,h7⟩
 ·exact ⟨h8,h9,h10,h11⟩
theorem E3.grown {w w':World} {ge:Nat} {t:Int×Int×Int} {row:Option Nat} (h:E3 w ge t) (hg:w.grownBy w' row) (hne:some ge≠row):E3 w' ge t:=fun k hk=>by
 obtain ⟨h0,h1,h2,h3⟩:=h k hk
 exact ⟨hg.cell h0 hne,hg.cell h1 hne,hg.cell h2 hne,hg.cell h3 hne⟩
theorem E3.kept {w w':World} {ge:Nat} {t:Int×Int×Int} (h:E3 w ge t) (hb:Bl w w'):E3 w' ge t:=h.grown (Qw hb) (by simp)
theorem same_map {M:Nat→M6} {j:Nat} {m:M6} (h:M j=m):(fun q=>if q=j then m else M q)=M:=by
 funext q
 by_cases e:q=j
 ·subst e
  simp [h]
 ·simp [e]
end Go.Proofs.YtgpjaecgkkgehaaGreatDoor
namespace Go.Proofs.YtgpjaecgkkgehaaGreatDoor
open Go.RowKit
theorem own_type {w:World} {B:Nat} {e:TypeId} {size:Nat} {v:Value} {n:Nat} {xs:List Value} (h:w.ownsRow B e size v n xs):∀g,v.ownBlock=some g→∃c,w.heap[g]?=some (.cells c e (0,0)):=by
 intro g hg
 rcases h.2 with ⟨rfl,_⟩|⟨g',cap,cur,rfl,_,hc,_⟩
 ·simp [Value.ownBlock] at hg
 ·simp only [Value.ownBlock,Option.some.injEq] at hg
  subst hg
  exact ⟨cur,hc⟩
def NestV (w:World) (base:Nat) (v:Value) (F:List (List (Int×Int×Int))) (vs:List Value):Prop :=
 vs.length=F.length∧w.ownsRow base 57 1 v F.length vs∧(∀n (h:n<vs.length) (h':n<F.length),w.ownsRow base 56 3 vs[n] F[n].length (flatV F[n])) ∧
 ∀n m (hn:n<vs.length) (hm:m<vs.length),n≠m→∀b,vs[n].ownBlock=some b→vs[m].ownBlock≠some b
def Nest (w:World) (base:Nat) (v:Value) (F:List (List (Int×Int×Int))):Prop := ∃vs,NestV w base v F vs
theorem nest_nil (w:World) (base:Nat):Nest w base (.slice none 0 0) []:=⟨[],rfl,World.ownsRow_nil _ _ _ _,fun n h=>by simp at h,fun n m h=>by simp at h⟩
theorem NestV.apart {w:World} {base:Nat} {v:Value} {F:List (List (Int×Int×Int))} {vs:List Value} (h:NestV w base v F vs) {n:Nat} (hn:n<vs.length):vs[n].ownBlock=none∨vs[n].ownBlock≠v.ownBlock:=by
 cases e:vs[n].ownBlock with
 | none=>exact Or.inl rfl
 | some b =>
  right
  intro e2
  obtain ⟨c1,g1⟩:=own_type (h.2.2.1 n hn (by rw [←h.1];exact hn)) b e
  obtain ⟨c2,g2⟩:=own_type h.2.1 b e2.symm
  rw [g1] at g2
  simp at g2
theorem NestV.grown {w w':World} {base:Nat} {v:Value} {F:List (List (Int×Int×Int))} {vs:List Value} (h:NestV w base v F vs) (hg:w.grownBy w' none):NestV w' base v F vs :=
 ⟨h.1,h.2.1.kept hg (by cases v.ownBlock<;>simp),fun n h1 h2=>(h.2.2.1 n h1 h2).kept hg (by cases vs[n].ownBlock<;>simp),h.2.2.2⟩
theorem NestV.kept {w w':World} {base:Nat} {v:Value} {F:List (List (Int×Int×Int))} {vs:List Value} (h:NestV w base v F vs) (hb:Bl w w'):NestV w' base v F vs:=h.grown (Qw hb)
theorem flatV_snoc (l:List (Int×Int×Int)) (t:Int×Int×Int):flatV (l++[t])=flatV l++[.int .i64 t.1,.int .i64 t.2.1,.int .i64 t.2.2]:=by simp [flatV]
def grwF (F:List (List (Int×Int×Int))) (p:Nat):List (List (Int×Int×Int)):=if p=F.length then F++[[]] else F
def putF (F:List (List (Int×Int×Int))) (p:Nat) (t:Int×Int×Int):List (List (Int×Int×Int)):=(grwF F p).set p ((grwF F p).getD p []++[t])
def fcs (L:List (Int×Int×Int)) (part:Nat→Int):Nat→List (List (Int×Int×Int))
 | 0=>[]
 | i+1=>putF (fcs L part i) (part i).toNat (L.getD i (0,0,0))
theorem grwF_len (F:List (List (Int×Int×Int))) (p:Nat):(grwF F p).length=if p=F.length then F.length+1 else F.length:=by
 unfold grwF
 split<;>simp
theorem putF_len (F:List (List (Int×Int×Int))) (p:Nat) (t:Int×Int×Int):(putF F p t).length=if p=F.length then F.length+1 else F.length:=by
 unfold putF
 rw [List.length_set,grwF_len]
theorem fcs_le (L:List (Int×Int×Int)) (part:Nat→Int):∀i,(fcs L part i).length≤i
 | 0=>by simp [fcs]
 | i+1=>by
  rw [fcs,putF_len]
  have:=fcs_le L part i
  split<;>omega
theorem grwF_row {F:List (List (Int×Int×Int))} {p n:Nat} (h:∀f∈F,f.length≤n):∀f∈grwF F p,f.length≤n:=by
 intro f hf
 unfold grwF at hf
 split at hf
 ·rcases List.mem_append.1 hf with q|q
  ·exact h f q
  ·simp at q
   subst q
   exact Nat.zero_le _
 ·exact h f hf
theorem fcs_row (L:List (Int×Int×Int)) (part:Nat→Int):∀i,∀f∈fcs L part i,f.length≤i
 | 0,f,hf=>by simp [fcs] at hf
 | i+1,f,hf=>by
  have h1:=grwF_row (p:=(part i).toNat) (fcs_row L part i)
  rw [fcs,putF] at hf
  rcases List.mem_or_eq_of_mem_set hf with q|q
  ·have:=h1 f q
   omega
  ·subst q
   rw [List.length_append,List.getD_eq_getElem?_getD]
   cases e:(grwF (fcs L part i) (part i).toNat)[(part i).toNat]? with
   | none=>simp
   | some f2 =>
    have:=h1 f2 (List.mem_of_getElem? e)
    simp
    omega
def NumOk (part:Nat→Int) (n:Nat):Prop:=(∀a,a<n→0≤part a)∧∀a,a<n→∀c,0≤c→c<part a→∃b,b<a∧part b=c
theorem PartsOk.num {cr:Int×Int×Int×Int→Bool} {L:List (Int×Int×Int)} {part:Nat→Int} (h:PartsOk cr L part):NumOk part L.length:=⟨h.1,h.2.2.2⟩
theorem fcs_has (L:List (Int×Int×Int)) (part:Nat→Int) {n:Nat} (h:NumOk part n):∀i,i≤n→(∀b,b<i→part b<((fcs L part i).length:Int))∧(i<n→part i≤((fcs L part i).length:Int))
 | 0,hi=>⟨fun b hb=>by omega,fun h0=>by
  rcases Int.lt_or_le 0 (part 0) with q|q
  ·obtain ⟨b,hb,_⟩:=h.2 0 h0 0 (by omega) q
   omega
  ·simpa [fcs] using q⟩
 | i+1,hi=>by
  obtain ⟨h1,h2⟩:=fcs_has L part h i (by omega)
  have h3:=h2 (by omega)
  have h0:=h.1 i (by omega)
  have hl:((fcs L part (i+1)).length:Int)=if part i=((fcs L part i).length:Int) then ((fcs L part i).length:Int)+1 else ((fcs L part i).length:Int):=by
   rw [fcs,putF_len]
   by_cases e:part i=((fcs L part i).length:Int)
   ·rw [if_pos e,if_pos (by omega)]
    omega
   ·rw [if_neg e,if_neg (by omega)]
  have h4:∀b,b<i+1→part b<((fcs L part (i+1)).length:Int):=fun b hb=>by
   rw [hl]
   by_cases e:b=i
   ·subst e
    split<;>omega
   ·have:=h1 b (by omega)
    split<;>omega
  refine ⟨h4,fun hn=>?_⟩
  rcases Int.lt_or_le ((fcs L part (i+1)).length:Int) (part (i+1)) with q|q
  ·obtain ⟨b,hb,e⟩:=h.2 (i+1) hn _ (by omega) q
   have:=h4 b hb
   omega
  ·exact q
theorem infS:(Tryz.prog.info? 57).map (fun i=>(i.zero,i.size,i.bytes))=some (some (.slice none 0 0),1,24):=by kernel_rfl
theorem infT:(Tryz.prog.info? 56).map (fun i=>(i.zero,i.size,i.bytes))=some (some (.agg #[.int .i64 0,.int .i64 0,.int .i64 0]),3,24):=by kernel_rfl
def FW (w1 wx:World) (v:Value) (F:List (List (Int×Int×Int))):Prop:=Nest wx w1.heap.size v F∧Bl w1 wx
theorem Nest.mono {w:World} {base base':Nat} {v:Value} {F:List (List (Int×Int×Int))} (h:Nest w base v F) (hb:base'≤base):Nest w base' v F:=by
 have le:∀{e:TypeId} {size n:Nat} {v:Value} {xs:List Value},w.ownsRow base e size v n xs→w.ownsRow base' e size v n xs:=fun h=>by
  refine ⟨h.1,h.2.imp id ?_⟩
  rintro ⟨g,cap,cur,h1,h2,h3⟩
  exact ⟨g,cap,cur,h1,Nat.le_trans hb h2,h3⟩
 obtain ⟨vs,h1,h2,h3,h4⟩:=h
 exact ⟨vs,h1,le h2,fun n q1 q2=>le (h3 n q1 q2),h4⟩
theorem own_form {w:World} {base size n:Nat} {e:TypeId} {v:Value} {xs:List Value} (h:w.ownsRow base e size v n xs):∃a cap,v=.slice a n cap∧(0<n→∃g,a=some ⟨g,0,none⟩):=by
 rcases h.2 with ⟨rfl,rfl⟩|⟨g,cap,cur,rfl,_⟩
 ·exact ⟨none,0,rfl,fun h=>by omega⟩
 ·exact ⟨_,cap,rfl,fun _=>⟨g,rfl⟩⟩
attribute [local go_sem ↓] Go.wp_at_zero Go.wp_at_succ
def InvC (cr:Int×Int×Int×Int→Bool) (l:List (Int×Int×Int)) (who:Nat→Nat):Prop := ∀i (hi:i<l.length),who i≤i∧∃hw:who i<l.length,ReachC cr l l[i] l[who i]
def OkC (cr:Int×Int×Int×Int→Bool) (l:List (Int×Int×Int)) (who:Nat→Nat) (i e:Nat):Prop := ∀(hi:i<l.length),cr (edg l[i] e)=true→∀j (_:j<l.length),plc l (acr l[i] (edg l[i] e))=(j:Int)→who i≤who j
theorem invC_id (cr:Int×Int×Int×Int→Bool) (l:List (Int×Int×Int)):InvC cr l (fun i=>i):=fun _ hi=>⟨Nat.le_refl _,hi,.here (List.getElem_mem hi)⟩
theorem invC_upd {cr:Int×Int×Int×Int→Bool} {l:List (Int×Int×Int)} {who:Nat→Nat} {i j e:Nat} (hI:InvC cr l who) (hi:i<l.length) (hj:j<l.length) (hk:Kd l[i]) (hc:cr (edg l[i] e)=true) (hp:plc l (acr l[i] (edg l[i] e))=(j:Int)) (hlt:who j<who i):InvC cr l (upd who i (who j)):=by
 intro m hm
 by_cases h:m=i
 ·subst h
  simp only [upd,if_true]
  obtain ⟨h1,_,_⟩:=hI m hm
  obtain ⟨_,hw,hr⟩:=hI j hj
  have ha:AdjC cr l[m] l[j]:=by
   have h3:=acr_adj hk (Q3 l[m] e)
   rw [plc_get hj hp]
   exact ⟨h3.2.1,_,Q3 _ _,h3.1,hc⟩
  exact ⟨by omega,hw,((ReachC.here (List.getElem_mem hm)).step (List.getElem_mem hj) ha).trans hr⟩
 ·simp only [upd,if_neg h]
  exact hI m hm
theorem groupsC_any (W H b off cap:Nat) (n ccap:Nat) (cb:Option Addr) (zs ks:List Int) (w:World) (hr:Row w (some ⟨b,off,none⟩) zs) (hW:1≤W∧W≤8) (hH:1≤H∧H≤8) (hl:zs.length=W*H) (hm:maskB zs=true) (hCR:CRow w cb ks n) (hC1:CrOne ks n) (hn2:n≤3518437208883) :
  Calls Tryz.prog 46 #[.agg #[.int .i64 (W:Int),.int .i64 (H:Int),.slice (some ⟨b,off,none⟩) zs.length cap,.slice cb n ccap],.bool false] w fun e w'=>∃g who,e=.returned (.slice (some ⟨g,0,none⟩) (ty zs W H).length (ty zs W H).length)∧WRow w' g (ty zs W H).length who∧InvC (fun e=>decide (kdn ks n e=0)) (ty zs W H) who∧(∀i e,i<(ty zs W H).length→e<3→OkC (fun e=>decide (kdn ks n e=0)) (ty zs W H) who i e)∧Bl w w':=by
 have C38:Hid (∀W':World,Bl w W'→Calls Tryz.prog 38 #[.agg #[.int .i64 (W:Int),.int .i64 (H:Int),.slice (some ⟨b,off,none⟩) zs.length cap,.slice cb n ccap]] W' fun e w'=>∃v,e=.returned v∧w'.ownsRow (W'.heap.size+1) 56 3 v (ty zs W H).length (flatV (ty zs W H))∧Bl W' w'):=fun W' hW'=>Jw W H b off cap zs (.slice cb n ccap) W' (hr.kept hW') hW hH hl hm
 have HBD:Hid (∀t∈ty zs W H,(0≤t.1∧t.1≤8)∧(0≤t.2.1∧t.2.1≤8)∧(0≤t.2.2∧t.2.2≤3)):=ty_bd hW.2 hH.2
 have hlen:(ty zs W H).length≤256:=by have:=Jn zs W H hW.2;omega
 obtain ⟨i3,hi3,hz0,hz1,hz2⟩:=info_parts inf3
 have HI3:Hid (Tryz.prog.info? 3=some i3∧i3.zero=some (.int .i64 0)∧i3.size=1∧i3.bytes=8):=⟨hi3,hz0,hz1,hz2⟩
 have CK0:Hid (∀(p q r s:Int) (W':World),Bl w W'→Calls Tryz.prog 42 #[.agg #[.int .i64 (W:Int),.int .i64 (H:Int),.slice (some ⟨b,off,none⟩) zs.length cap,.slice cb n ccap],.agg #[.int .i64 p,.int .i64 q,.int .i64 r,.int .i64 s]] W' fun e w'=>e=.returned (.int .i64 (kdn ks n (p,q,r,s)))∧Bl W' w'):=fun p q r s W' hW'=>kindOf_any W' _ _ _ cb n ccap ks p q r s (hCR.kept2 hW') hC1 hn2
 clear hCR hC1 hr hl hm hW hH hi3 hz0 hz1 hz2
 obtain ⟨L,hL⟩:∃L,L=ty zs W H:=⟨_,rfl⟩
 rw [←hL] at C38 HBD hlen ⊢
 clear hL
 go_enter Tryz.func46,Tryz.ntmps46
 go_wp2_with (first
  | (go_at_call 38;refine (C38.out _ (by with_reducible exact Qb (Qc _))).mono ?_;rintro e w1 ⟨v,rfl,ho,hb⟩;obtain ⟨a,ca,rfl,hT⟩:=Jk ho;have HWX:Hid (∃wB,Bl w wB∧(wB.cell? ⟨w.heap.size,0,none⟩=some (.int .i64 (W:Int))∧wB.cell? ⟨w.heap.size,1,none⟩=some (.int .i64 (H:Int))∧wB.cell? ⟨w.heap.size,2,none⟩=some (.slice (some ⟨b,off,none⟩) zs.length cap)∧wB.cell? ⟨w.heap.size,3,none⟩=some (.slice cb n ccap))∧Bl wB w1):=⟨_,Qb (Qc _),⟨by simp [go_sem],by simp [go_sem],by simp [go_sem],by simp [go_sem]⟩,hb⟩;have HWT:Hid (TRow w1 a L):=hT;clear hT ho hb)
  | (at_make;refine wpList_make_full _ rfl (.tmp 18) (.tmp 18) 22 rfl w1.heap.size 3 i3 (.int .i64 0) 1 Tryz.underlying22 HI3.out.1 HI3.out.2.1 HI3.out.2.2.1 .i64 .i64 _ _ L.length rfl rfl rfl rfl ?b2 ?b3 ?b4 ?mk))
 all_goals obtain ⟨wB,hwB,hbox,hwB1⟩:=HWX.out
 all_goals have HW:Hid (TRow w1 a L∧Bl wB w1):=⟨HWT.out,hwB1⟩
 all_goals have HBOX:Hid (Bl w wB∧wB.cell? ⟨w.heap.size,0,none⟩=some (.int .i64 (W:Int))∧wB.cell? ⟨w.heap.size,1,none⟩=some (.int .i64 (H:Int))∧wB.cell? ⟨w.heap.size,2,none⟩=some (.slice (some ⟨b,off,none⟩) zs.length cap)∧wB.cell? ⟨w.heap.size,3,none⟩=some (.slice cb n ccap)):=⟨hwB,hbox⟩
 all_goals clear hwB hbox hwB1 HWX HWT
 case b2 =>
  rw [HI3.out.2.2.2]
  omega
 case b3 =>
  unfold maxLen
  omega
 case b4=>exact Nat.le_refl _
 case mk =>
  intro w2 ho hg
  have hbel:Bl w1 w2:=(Below.refl _ _).grown hg (Nat.le_refl _) (fun k h=>by cases h)
  have hF:∀i,i<L.length→(∃u,w2.cell? ⟨w1.heap.size,i,none⟩=some u)∧w2.frozen? ⟨w1.heap.size,i,none⟩=false:=fun i hi=>by
   have h1:=ho.1
   have h2:=ho.cellAt i (by omega)
   exact ⟨⟨_,h2.trans (List.getElem?_eq_getElem (by omega))⟩,ho.frozenAt i⟩
  obtain ⟨g,hgg⟩:∃g,g=w1.heap.size:=⟨_,rfl⟩
  have HF:Hid (TRB w2 a L g∧(∀i,i<L.length→(∃u,w2.cell? ⟨g,i,none⟩=some u)∧w2.frozen? ⟨g,i,none⟩=false)∧Bl wB w2∧wB.heap.size≤g):=⟨(row_trb HW.out.1 (by omega)).kept hbel,by rw [hgg];exact hF,Qe HW.out.2 hbel,by rw [hgg];exact HW.out.2.size⟩
  rw [←hgg]
  clear hF hbel ho hg hgg HW
  go_wp2
  go_loopg [7] L.length (fun gk s7 wx=>∃i:Nat,i≤L.length∧gk=L.length-i∧s7=.int .i64 (i:Int)∧TRB wx a L g∧(∀j,j<L.length→(∃u,wx.cell? ⟨g,j,none⟩=some u)∧wx.frozen? ⟨g,j,none⟩=false)∧(∀j,j<i→wx.cell? ⟨g,j,none⟩=some (.int .i64 (j:Int)))∧Bl wB wx)
  case atStart=>exact ⟨0,by omega,rfl,rfl,HF.out.1,HF.out.2.1,fun j h=>by omega,HF.out.2.2.1⟩
  case round =>
   obtain ⟨i,hi,rfl,rfl,hT,hC,hD,hB⟩:=hrel
   have HR:Hid (TRB wr a L g∧(∀j,j<L.length→(∃u,wr.cell? ⟨g,j,none⟩=some u)∧wr.frozen? ⟨g,j,none⟩=false)∧(∀j,j<i→wr.cell? ⟨g,j,none⟩=some (.int .i64 (j:Int)))∧Bl wB wr):=⟨hT,hC,hD,hB⟩
   clear hT hC hD hB
   by_cases h1:i<L.length
   ·have i1:(i:Int)<(L.length:Int):=by omega
    have i0:(0:Int)≤(i:Int):=by omega
    obtain ⟨⟨u,hu⟩,hf⟩:=HR.out.2.1 i h1
    go_wp2
    go_roundg (L.length-(i+1))
    case measure=>omega
    case rel =>
     refine ⟨i+1,by omega,rfl,by go_num,HR.out.1.set,fun j hj=>?_,fun j hj=>?_,Ql HR.out.2.2.2 HF.out.2.2.2⟩
     ·refine ⟨?_,by rw [World.frozen?_setCell];exact (HR.out.2.1 j hj).2⟩
      by_cases e:j=i
      ·subst e
       exact ⟨_,World.cell?_setCell_same _ _ _ hu⟩
      ·obtain ⟨u',hu'⟩:=(HR.out.2.1 j hj).1
       exact ⟨u',(World.cell?_setCell_other _ _ _ _ (by intro hh;injection hh with _ h2;exact e h2.symm)).trans hu'⟩
     ·by_cases e:j=i
      ·subst e
       exact World.cell?_setCell_same _ _ _ hu
      ·exact (World.cell?_setCell_other _ _ _ _ (by intro hh;injection hh with _ h2;exact e h2.symm)).trans (HR.out.2.2.1 j (by omega))
   ·have i1:¬(i:Int)<(L.length:Int):=by omega
    have HG:Hid (GWp wB wr a L g (fun j=>j)):=⟨HR.out.1,fun j hj=>⟨HR.out.2.2.1 j (by omega),(HR.out.2.1 j hj).2⟩,HR.out.2.2.2⟩
    have hgl:wB.heap.size≤g:=HF.out.2.2.2
    clear HR HF
    go_wp2
    go_loopg [8] (sumW (fun j=>j) L.length+1) (fun gk s8 wx=>∃(who:Nat→Nat) (ch:Bool),s8=.bool ch∧gk=sumW who L.length+(if ch=true then 1 else 0)∧InvC (fun e=>decide (kdn ks n e=0)) L who∧(ch=false→∀i e,i<L.length→e<3→OkC (fun e=>decide (kdn ks n e=0)) L who i e)∧GWp wB wx a L g who)
    case atStart=>exact ⟨fun j=>j,true,rfl,rfl,invC_id _ L,by simp,HG.out⟩
    case round =>
     clear HG
     obtain ⟨who,ch,rfl,rfl,hI,hO,hG⟩:=hrel
     have HI:Hid (InvC (fun e=>decide (kdn ks n e=0)) L who):=hI
     have HO:Hid (ch=false→∀i e,i<L.length→e<3→OkC (fun e=>decide (kdn ks n e=0)) L who i e):=hO
     have HG:Hid (GWp wB wr a L g who):=hG
     clear hI hO hG
     cases ch
     ·go_wp2
      go_ret
      exact ⟨g,rfl,who,HG.out.2.1,HI.out,HO.out (by simp),Qe HBOX.out.1 HG.out.2.2⟩
     ·obtain ⟨S0,hS0⟩:∃S,S=sumW who L.length:=⟨_,rfl⟩
      have HS0:Hid (S0=sumW who L.length):=hS0
      go_wp2
      go_loopg [8,9] L.length (fun gk s8 s9 wx=>∃(i:Nat) (who:Nat→Nat) (ch:Bool),i≤L.length∧gk=L.length-i∧s8=.bool ch∧s9=.int .i64 (i:Int)∧InvC (fun e=>decide (kdn ks n e=0)) L who∧(sumW who L.length≤S0∧(ch=true→sumW who L.length<S0))∧(ch=false→∀i' e,i'<i→e<3→OkC (fun e=>decide (kdn ks n e=0)) L who i' e)∧GWp wB wx a L g who)
      case atStart=>exact ⟨0,who,false,by omega,rfl,rfl,rfl,HI.out,⟨by omega,by simp⟩,fun _ i' e h=>by omega,HG.out⟩
      case round =>
       clear HG HI HO
       obtain ⟨i,who1,ch,hi,rfl,rfl,rfl,hI,hS,hO,hG⟩:=hrel
       have HI:Hid (InvC (fun e=>decide (kdn ks n e=0)) L who1∧(sumW who1 L.length≤S0∧(ch=true→sumW who1 L.length<S0))∧(ch=false→∀i' e,i'<i→e<3→OkC (fun e=>decide (kdn ks n e=0)) L who1 i' e)):=⟨hI,hS,hO⟩
       have HG:Hid (GWp wB wr a L g who1):=hG
       clear hI hS hO hG
       by_cases h1:i<L.length
       ·have i1:(i:Int)<(L.length:Int):=by omega
        have i0:(0:Int)≤(i:Int):=by omega
        obtain ⟨ga,rfl,hne,t0,t1,t2⟩:=HG.out.1 i h1
        have hbd:=HBD.out _ (List.getElem_mem h1)
        have zg:g<wr.heap.size:=bk (HG.out.2.1 i h1).1
        obtain ⟨t,ht⟩:∃t,t=L[i]:=⟨_,rfl⟩
        obtain ⟨x,y,k⟩:=t
        rw [←ht] at t0 t1 t2 hbd
        dsimp only at t0 t1 t2 hbd
        have HE:Hid ((x,y,k)=L[i]):=ht
        have HTB:Hid (triB x y k=true∧Kd L[i]):=⟨by simp [triB];omega,by rw [←ht];exact hbd.2.2⟩
        have C13:Hid (∀W':World,Calls Tryz.prog 39 #[.agg #[.int .i64 x,.int .i64 y,.int .i64 k]] W' fun e w'=>∃g,e=.returned (.slice (some ⟨g,0,none⟩) 3 3)∧W'.heap.size≤g∧Twl w' g (ue0 x y k) (ue1 x y k) (ue2 x y k) (ue3 x y k) (ue4 x y k) (ue5 x y k) (ue6 x y k) (ue7 x y k) (ue8 x y k) (ue9 x y k) (ue10 x y k) (ue11 x y k)∧Bl W' w'):=fun W'=>Jr x y k W' (by omega) (by omega) (by omega) (by omega) hbd.2.2.1 hbd.2.2.2
        clear ht hbd
        go_wp2_with (go_at_call 39;refine (C13.out _).mono ?_;rintro e w3 ⟨ge,rfl,hge,hM,hb⟩;have HG3:Hid (GWp wB w3 (some ⟨ga,0,none⟩) L g who1∧Twl w3 ge (ue0 x y k) (ue1 x y k) (ue2 x y k) (ue3 x y k) (ue4 x y k) (ue5 x y k) (ue6 x y k) (ue7 x y k) (ue8 x y k) (ue9 x y k) (ue10 x y k) (ue11 x y k)):=⟨HG.out.kept hb,hM⟩;have hgg:g<ge:=(by omega);clear hge hM hb)
        go_loopg [8,11] 3 (fun gk s8 s11 wx=>∃(k':Nat) (who:Nat→Nat) (ch:Bool),k'≤3∧gk=3-k'∧s8=.bool ch∧s11=.int .i64 (k':Int)∧InvC (fun e=>decide (kdn ks n e=0)) L who∧(sumW who L.length≤S0∧(ch=true→sumW who L.length<S0))∧(ch=false→(∀i' e,i'<i→e<3→OkC (fun e=>decide (kdn ks n e=0)) L who i' e)∧∀e,e<k'→OkC (fun e=>decide (kdn ks n e=0)) L who i e)∧GWp wB wx (some ⟨ga,0,none⟩) L g who∧Twl wx ge (ue0 x y k) (ue1 x y k) (ue2 x y k) (ue3 x y k) (ue4 x y k) (ue5 x y k) (ue6 x y k) (ue7 x y k) (ue8 x y k) (ue9 x y k) (ue10 x y k) (ue11 x y k))
        case atStart=>exact ⟨0,who1,ch,by omega,rfl,rfl,rfl,HI.out.1,HI.out.2.1,fun h=>⟨HI.out.2.2 h,fun e h=>by omega⟩,HG3.out.1,HG3.out.2⟩
        case round =>
         clear HG HG3 HI t0 t1 t2 zg
         obtain ⟨k',who2,ch2,hk',rfl,rfl,rfl,hI,hS,hO,hG,hTw⟩:=hrel
         have HI:Hid (InvC (fun e=>decide (kdn ks n e=0)) L who2∧(sumW who2 L.length≤S0∧(ch2=true→sumW who2 L.length<S0))∧(ch2=false→(∀i' e,i'<i→e<3→OkC (fun e=>decide (kdn ks n e=0)) L who2 i' e)∧∀e,e<k'→OkC (fun e=>decide (kdn ks n e=0)) L who2 i e)):=⟨hI,hS,hO⟩
         have HG:Hid (GWp wB wr (some ⟨ga,0,none⟩) L g who2∧Twl wr ge (ue0 x y k) (ue1 x y k) (ue2 x y k) (ue3 x y k) (ue4 x y k) (ue5 x y k) (ue6 x y k) (ue7 x y k) (ue8 x y k) (ue9 x y k) (ue10 x y k) (ue11 x y k)):=⟨hG,hTw⟩
         clear hI hS hO hG hTw
         by_cases hk3:k'<3
         ·have k1:(k':Int)<3:=by omega
          have k0:(0:Int)≤(k':Int):=by omega
          obtain ⟨E0,E1,E2,E3,HEG⟩:=edge_of x y k ge k' hk3
          obtain ⟨ga',ea,hne',t0,t1,t2⟩:=HG.out.1.1 i h1
          obtain ⟨m0,m1,m2,m3⟩:=HEG.out.2.2 _ HG.out.2
          simp only [Option.some.injEq,Addr.mk.injEq,and_true] at ea
          subst ea
          rw [←HE.out] at t0 t1 t2
          dsimp only at t0 t1 t2
          have zt:ga<wr.heap.size:=bk t0
          have ze:ge<wr.heap.size:=bk m0
          go_wp2
          go_cut [12,13] (fun sa sb wx=>∃g12:Nat,sa=.pointer (some ⟨g12,0,none⟩)∧sb=.bool true∧Tr wx g12 (acX x y k E0 E1 E2 E3) (acY x y k E0 E1 E2 E3) (acK x y k E0 E1 E2 E3)∧Bl wr wx)
          case first =>
           go_region_held3 (fun w'=>w'.cell? ⟨ga,i*3,none⟩=some (.int .i64 x)∧w'.cell? ⟨ga,i*3+1,none⟩=some (.int .i64 y)∧w'.cell? ⟨ga,i*3+2,none⟩=some (.int .i64 k)∧w'.cell? ⟨ge,k'*4,none⟩=some (.int .i64 E0)∧w'.cell? ⟨ge,k'*4+1,none⟩=some (.int .i64 E1)∧w'.cell? ⟨ge,k'*4+2,none⟩=some (.int .i64 E2)∧w'.cell? ⟨ge,k'*4+3,none⟩=some (.int .i64 E3))
            ((refine ⟨?_,?_,?_,?_,?_,?_,?_⟩<;>(repeat' (first|(with_reducible assumption)|(with_reducible refine Xe ?_ ?_)|(dsimp only;omega)|(simp [go_sem];done)|(with_reducible refine Qh ?_)|(with_reducible refine Qi ?_)))))
            ((go_at_call 40;refine (Xy _ _ _ _ _ _ _ _ HTB.out.1 HEG.out.2.1).mono ?_;rintro e w8 ⟨rfl,hb⟩;have t0_w8:w8.cell? ⟨ga,i*3,none⟩=some (.int .i64 x):=Qa hb (by with_reducible (repeat (first|assumption|refine Qi ?_|refine Qh ?_)));have t1_w8:w8.cell? ⟨ga,i*3+1,none⟩=some (.int .i64 y):=Qa hb (by with_reducible (repeat (first|assumption|refine Qi ?_|refine Qh ?_)));have t2_w8:w8.cell? ⟨ga,i*3+2,none⟩=some (.int .i64 k):=Qa hb (by with_reducible (repeat (first|assumption|refine Qi ?_|refine Qh ?_)));have m0_w8:w8.cell? ⟨ge,k'*4,none⟩=some (.int .i64 E0):=Qa hb (by with_reducible (repeat (first|assumption|refine Qi ?_|refine Qh ?_)));have m1_w8:w8.cell? ⟨ge,k'*4+1,none⟩=some (.int .i64 E1):=Qa hb (by with_reducible (repeat (first|assumption|refine Qi ?_|refine Qh ?_)));have m2_w8:w8.cell? ⟨ge,k'*4+2,none⟩=some (.int .i64 E2):=Qa hb (by with_reducible (repeat (first|assumption|refine Qi ?_|refine Qh ?_)));have m3_w8:w8.cell? ⟨ge,k'*4+3,none⟩=some (.int .i64 E3):=Qa hb (by with_reducible (repeat (first|assumption|refine Qi ?_|refine Qh ?_)));(first|(have hfz:=fresh_a (g:=wr.heap.size) rfl hb;obtain ⟨fy0,fy1,fy2,fz0,fz1,fz2,fz3⟩:=hfz)|(have hfz:=fresh_d (g:=wr.heap.size) rfl hb;obtain ⟨fy0,fy1,fy2,fz0,fz1,fz2,fz3⟩:=hfz)|(have hfz:=fresh_dd (g:=wr.heap.size) rfl hb;obtain ⟨fy0,fy1,fy2,fz0,fz1,fz2,fz3⟩:=hfz)|skip);have hq:Bl wr w8:=(by with_reducible (first|exact hb|exact Qu hb|exact Qu (Qu hb)|exact Qe (Qb (Qc _)) hb|exact Qe (Qf (Qb (Qc _))) hb|exact Qe (Qb (Qf (Qc _))) hb|exact Qe (Qf (Qb (Qf (Qc _)))) hb));have HQ:Hid (Bl wr w8):=hq;have zs0:ga<w8.heap.size:=bk t0_w8;have zs1:ge<w8.heap.size:=bk m0_w8;clear hb hq))
           all_goals
            go_wp2
            go_meet
            case rel =>
             refine ⟨_,rfl,rfl,?_,?_⟩
             ·first|(simp [Tr,go_sem];done)|(simp [Tr,go_sem, *];done)
             ·with_reducible repeat' (first|exact HQ.out|refine Ql ?_ ?_|refine Qb ?_|refine Qf ?_)
              all_goals (first|omega|(dsimp only;omega)|(simp;done))
          case rest =>
           obtain ⟨g12,rfl,rfl,hTr,hBc⟩:=hcut
           have HG1:Hid (GWp wB wc (some ⟨ga,0,none⟩) L g who2∧Twl wc ge (ue0 x y k) (ue1 x y k) (ue2 x y k) (ue3 x y k) (ue4 x y k) (ue5 x y k) (ue6 x y k) (ue7 x y k) (ue8 x y k) (ue9 x y k) (ue10 x y k) (ue11 x y k)):=⟨HG.out.1.kept hBc,HG.out.2.kept hBc⟩
           have HTr:Hid (Tr wc g12 (acX x y k E0 E1 E2 E3) (acY x y k E0 E1 E2 E3) (acK x y k E0 E1 E2 E3)):=hTr
           clear hTr hBc HG t0 t1 t2 m0 m1 m2 m3 zt ze
           obtain ⟨n0,n1,n2⟩:=HTr.out
           have zn:g12<wc.heap.size:=bk n0
           have HPL:Hid (plc L (acr L[i] (edg L[i] k'))=plc L ((acX x y k E0 E1 E2 E3),(acY x y k E0 E1 E2 E3),(acK x y k E0 E1 E2 E3))):=by
            show plc L (acr L[i] (edg L[i] k'))=plc L ((acX x y k E0 E1 E2 E3),(acY x y k E0 E1 E2 E3),(acK x y k E0 E1 E2 E3))
            rw [←HE.out,HEG.out.1]
            rfl
           have hgi:edg L[i] k'=(E0,E1,E2,E3):=by rw [←HE.out];exact HEG.out.1
           obtain ⟨z,hz⟩:∃z,z=kdn ks n (E0,E1,E2,E3):=⟨_,rfl⟩
           have HZ:Hid (decide (kdn ks n (edg L[i] k')=0)=decide (z=0)):=by
            have:decide (kdn ks n (edg L[i] k')=0)=decide (z=0):=by rw [hgi,hz]
            exact this
           have CK:Hid (∀W':World,Bl wc W'→Calls Tryz.prog 42 #[.agg #[.int .i64 (W:Int),.int .i64 (H:Int),.slice (some ⟨b,off,none⟩) zs.length cap,.slice cb n ccap],.agg #[.int .i64 E0,.int .i64 E1,.int .i64 E2,.int .i64 E3]] W' fun e w'=>e=.returned (.int .i64 z)∧Bl W' w'):=fun W' hW'=>hz ▸ CK0.out _ _ _ _ W' (Qe HBOX.out.1 (Qe HG1.out.1.2.2 hW'))
           clear hgi hz
           have b0:=Qa HG1.out.1.2.2 HBOX.out.2.1
           have b1:=Qa HG1.out.1.2.2 HBOX.out.2.2.1
           have b2:=Qa HG1.out.1.2.2 HBOX.out.2.2.2.1
           have b3:=Qa HG1.out.1.2.2 HBOX.out.2.2.2.2
           obtain ⟨m0,m1,m2,m3⟩:=HEG.out.2.2 _ HG1.out.2
           have zb:w.heap.size<wc.heap.size:=bk b0
           have ze:ge<wc.heap.size:=bk m0
           have kc:=Kin.cells wc
           have kn:Nonempty (Kin wc):=⟨⟨wc,Qc _⟩⟩
           go_wp2
           refine Qg (by kernel_rfl) (by kernel_rfl) ?_
           repeat (go_big_quiet_step ((go_at_call 42;exact Qo (CK.out _ (Kin.h _)))))
           refine wpQuiet_nil ?_
           intro we hw'
           obtain ⟨nq,hw''⟩:=hw'
           have hq:Bl wc we:=hw'' ▸ nq.h
           have n0':=Qa hq n0
           have n1':=Qa hq n1
           have n2':=Qa hq n2
           have zn':g12<we.heap.size:=bk n0'
           have HGe:Hid (GWp wB we (some ⟨ga,0,none⟩) L g who2∧Twl we ge (ue0 x y k) (ue1 x y k) (ue2 x y k) (ue3 x y k) (ue4 x y k) (ue5 x y k) (ue6 x y k) (ue7 x y k) (ue8 x y k) (ue9 x y k) (ue10 x y k) (ue11 x y k)):=⟨HG1.out.1.kept hq,HG1.out.2.kept hq⟩
           clear hw'' nq hq kc kn zb ze b0 b1 b2 b3 m0 m1 m2 m3 HG1 n0 n1 n2 zn HTr CK
           by_cases hz0:z=0
           ·have HCR:Hid (decide (kdn ks n (edg L[i] k')=0)=true):=by
             have:decide (kdn ks n (edg L[i] k')=0)=true:=by rw [HZ.out];simpa using hz0
             exact this
            subst hz0
            rcases plc_bd L ((acX x y k E0 E1 E2 E3),(acY x y k E0 E1 E2 E3),(acK x y k E0 E1 E2 E3)) with hp|⟨j,hj,hp⟩
            ·have C110:Hid (∀W':World,TRow W' (some ⟨ga,0,none⟩) L→Calls Tryz.prog 41 #[.slice (some ⟨ga,0,none⟩) L.length ca,.agg #[.int .i64 (acX x y k E0 E1 E2 E3),.int .i64 (acY x y k E0 E1 E2 E3),.int .i64 (acK x y k E0 E1 E2 E3)]] W' fun e w'=>e=.returned (.int .i64 (-1))∧Bl W' w'):=fun W' hT=>hp ▸ Ja _ ca L _ _ _ W' hT hlen
             have HOK:Hid (OkC (fun e=>decide (kdn ks n e=0)) L who2 i k'):=fun hi' _ j' hj' hq=>by
              rw [HPL.out,hp] at hq
              omega
             clear hp
             go_wp2_with (go_at_call 41;refine (C110.out _ (HGe.out.1.1.row)).mono ?_;rintro e w10 ⟨rfl,hb⟩;have HG2:Hid (GWp wB w10 (some ⟨ga,0,none⟩) L g who2∧Twl w10 ge (ue0 x y k) (ue1 x y k) (ue2 x y k) (ue3 x y k) (ue4 x y k) (ue5 x y k) (ue6 x y k) (ue7 x y k) (ue8 x y k) (ue9 x y k) (ue10 x y k) (ue11 x y k)):=⟨HGe.out.1.kept hb,HGe.out.2.kept hb⟩;clear hb)
             go_quiet (fail)
             go_wp2
             go_roundg (3-(k'+1))
             case measure=>omega
             case rel =>
              refine ⟨k'+1,who2,ch2,by omega,rfl,rfl,by go_num,HI.out.1,HI.out.2.1,fun h=>⟨(HI.out.2.2 h).1,fun e' he'=>?_⟩,HG2.out.1.kept (Qk (Qc _)),HG2.out.2.kept (Qk (Qc _))⟩
              by_cases ee:e'=k'
              ·subst ee;exact HOK.out
              ·exact (HI.out.2.2 h).2 e' (by omega)
            ·have C110:Hid (∀W':World,TRow W' (some ⟨ga,0,none⟩) L→Calls Tryz.prog 41 #[.slice (some ⟨ga,0,none⟩) L.length ca,.agg #[.int .i64 (acX x y k E0 E1 E2 E3),.int .i64 (acY x y k E0 E1 E2 E3),.int .i64 (acK x y k E0 E1 E2 E3)]] W' fun e w'=>e=.returned (.int .i64 (j:Int))∧Bl W' w'):=fun W' hT=>hp ▸ Ja _ ca L _ _ _ W' hT hlen
             have HP:Hid (plc L (acr L[i] (edg L[i] k'))=(j:Int)):=HPL.out.trans hp
             have j1:(j:Int)<(L.length:Int):=by omega
             have j0:(0:Int)≤(j:Int):=by omega
             clear hp
             go_wp2_with (go_at_call 41;refine (C110.out _ (HGe.out.1.1.row)).mono ?_;rintro e w10 ⟨rfl,hb⟩;have HG2:Hid (GWp wB w10 (some ⟨ga,0,none⟩) L g who2∧Twl w10 ge (ue0 x y k) (ue1 x y k) (ue2 x y k) (ue3 x y k) (ue4 x y k) (ue5 x y k) (ue6 x y k) (ue7 x y k) (ue8 x y k) (ue9 x y k) (ue10 x y k) (ue11 x y k)):=⟨HGe.out.1.kept hb,HGe.out.2.kept hb⟩;clear hb)
             obtain ⟨ci,fi⟩:=HG2.out.1.2.1 i h1
             obtain ⟨cj,fj⟩:=HG2.out.1.2.1 j hj
             by_cases hlt:who2 j<who2 i
             ·have q1:(who2 j:Int)<(who2 i:Int):=by omega
              go_quiet (fail)
              generalize hwd:World.drewN w10 _=wd
              have ci':wd.cell? ⟨g,i,none⟩=some (.int .i64 (who2 i:Int)):=by rw [←hwd];exact ci
              have cj':wd.cell? ⟨g,j,none⟩=some (.int .i64 (who2 j:Int)):=by rw [←hwd];exact cj
              have fi':wd.frozen? ⟨g,i,none⟩=false:=by rw [←hwd];exact fi
              have HGd:Hid (GWp wB wd (some ⟨ga,0,none⟩) L g who2∧Twl wd ge (ue0 x y k) (ue1 x y k) (ue2 x y k) (ue3 x y k) (ue4 x y k) (ue5 x y k) (ue6 x y k) (ue7 x y k) (ue8 x y k) (ue9 x y k) (ue10 x y k) (ue11 x y k)):=by
               rw [←hwd]
               exact ⟨HG2.out.1.kept (Qk (Qc _)),HG2.out.2.kept (Qk (Qc _))⟩
              clear ci cj fi fj hwd HG2 HGe n0' n1' n2' zn'
              go_wp2
              go_roundg (3-(k'+1))
              case measure=>omega
              case rel=>exact ⟨k'+1,upd who2 i (who2 j),true,by omega,rfl,rfl,by go_num,invC_upd HI.out.1 h1 hj HTB.out.2 HCR.out HP.out hlt,⟨Nat.le_trans (Nat.le_of_lt (sum_upd hlt _ h1)) HI.out.2.1.1,fun _=>Nat.lt_of_lt_of_le (sum_upd hlt _ h1) HI.out.2.1.1⟩,by simp,⟨HGd.out.1.1.set,HGd.out.1.2.1.set h1,Ql HGd.out.1.2.2 hgl⟩,HGd.out.2.set (by dsimp only;omega)⟩
             ·have q1:¬(who2 j:Int)<(who2 i:Int):=by omega
              have HOK:Hid (OkC (fun e=>decide (kdn ks n e=0)) L who2 i k'):=fun hi' _ j' hj' hq=>by
               rw [HP.out] at hq
               obtain rfl:j=j':=by omega
               omega
              go_quiet (fail)
              go_wp2
              go_roundg (3-(k'+1))
              case measure=>omega
              case rel =>
               refine ⟨k'+1,who2,ch2,by omega,rfl,rfl,by go_num,HI.out.1,HI.out.2.1,fun h=>⟨(HI.out.2.2 h).1,fun e' he'=>?_⟩,HG2.out.1.kept (Qk (Qc _)),HG2.out.2.kept (Qk (Qc _))⟩
               by_cases ee:e'=k'
               ·subst ee;exact HOK.out
               ·exact (HI.out.2.2 h).2 e' (by omega)
           ·have HOK:Hid (OkC (fun e=>decide (kdn ks n e=0)) L who2 i k'):=fun hi' hc=>by
             have h9:=HZ.out.symm.trans hc
             simp at h9
             exact absurd h9 hz0
            go_wp2
            go_roundg (3-(k'+1))
            case measure=>omega
            case rel =>
             refine ⟨k'+1,who2,ch2,by omega,rfl,rfl,by go_num,HI.out.1,HI.out.2.1,fun h=>⟨(HI.out.2.2 h).1,fun e' he'=>?_⟩,HGe.out.1,HGe.out.2⟩
             by_cases ee:e'=k'
             ·subst ee;exact HOK.out
             ·exact (HI.out.2.2 h).2 e' (by omega)
         ·obtain rfl:k'=3:=by omega
          go_wp2
          go_roundg (L.length-(i+1))
          case measure=>omega
          case rel =>
           refine ⟨i+1,who2,ch2,by omega,rfl,rfl,by go_num,HI.out.1,HI.out.2.1,fun h i' e hi' he=>?_,HG.out.1⟩
           by_cases ei:i'=i
           ·subst ei;exact (HI.out.2.2 h).2 e he
           ·exact (HI.out.2.2 h).1 i' e (by omega) he
       ·have i1:¬(i:Int)<(L.length:Int):=by omega
        go_wp2
        go_roundg (sumW who1 L.length+(if ch=true then 1 else 0))
        case measure =>
         have q1:=HI.out.2.1
         have q2:=HS0.out
         cases ch
         ·simp
          omega
         ·have:=q1.2 rfl
          simp
          omega
        case rel=>exact ⟨who1,ch,rfl,rfl,HI.out.1,fun h i' e hi' he=>HI.out.2.2 h i' e (by omega) he,HG.out⟩
end Go.Proofs.YtgpjaecgkkgehaaGreatDoor
