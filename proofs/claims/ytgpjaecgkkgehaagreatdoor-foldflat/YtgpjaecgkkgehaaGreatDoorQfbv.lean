/- A part of the proof of foldFlat_holds. -/
import Derived.Test.YtgpjaecgkkgehaaGreatDoorQfbd
import Derived.Test.YtgpjaecgkkgehaaGreatDoorQfab
import Derived.Test.YtgpjaecgkkgehaaGreatDoorQfbg
import Derived.Test.YtgpjaecgkkgehaaGreatDoorQfak
namespace Go.Proofs.YtgpjaecgkkgehaaGreatDoor
open Go.RowKit Go.ChangeMaps
set_option maxRecDepth 100000 in
set_option maxHeartbeats 3200000 in
theorem placed_none (w:World) (W H:Int) (a cb:Option Addr) (m ca n ccap:Nat) (CP:Hid (∀ V:World,Below w.heap.size w V→Calls Tryz.prog 64 #[.agg #[.int .i64 W,.int .i64 H,.slice a m ca,.slice cb n ccap]] V fun e w'=>e=.returned (.tuple #[.slice none 0 0,.int .i64 10])∧Below V.heap.size V w')) :
  Calls Tryz.prog 28 #[.agg #[.int .i64 W,.int .i64 H,.slice a m ca,.slice cb n ccap]] w fun e w'=>e=.returned (.tuple #[.agg #[.slice none 0 0,.map none,.map none,.slice none 0 0,.slice none 0 0],.int .i64 10])∧Below w.heap.size w w':=by
 go_enter Tryz.func28,Tryz.ntmps28
 go_upto_region 2 with (go_at_call 64;refine (CP.out _ (by with_reducible exact bl_alloc (bl_alloc (bl_refl _)))).mono ?_;rintro e w2 ⟨rfl,hb2⟩;have HB2:Hid (Below ((w.alloc (.cells #[.int .i64 W,.int .i64 H,.slice a m ca,.slice cb n ccap] 25)).alloc (.cells #[.slice none 0 0,.map none,.map none,.slice none 0 0,.slice none 0 0] 70)).heap.size ((w.alloc (.cells #[.int .i64 W,.int .i64 H,.slice a m ca,.slice cb n ccap] 25)).alloc (.cells #[.slice none 0 0,.map none,.map none,.slice none 0 0,.slice none 0 0] 70)) w2):=hb2;clear hb2)
 have d0:w2.cell? ⟨w.heap.size+1,0,none⟩=some (.slice none 0 0):=cl_kept HB2.out (by simp [go_sem])
 have d1:w2.cell? ⟨w.heap.size+1,1,none⟩=some (.map none):=cl_kept HB2.out (by simp [go_sem])
 have d2:w2.cell? ⟨w.heap.size+1,2,none⟩=some (.map none):=cl_kept HB2.out (by simp [go_sem])
 have d3:w2.cell? ⟨w.heap.size+1,3,none⟩=some (.slice none 0 0):=cl_kept HB2.out (by simp [go_sem])
 have d4:w2.cell? ⟨w.heap.size+1,4,none⟩=some (.slice none 0 0):=cl_kept HB2.out (by simp [go_sem])
 have k0:w2.frozen? ⟨w.heap.size+1,0,none⟩=false:=(Below.frozen HB2.out (by simp)).trans (by simp [go_sem])
 have k1:w2.frozen? ⟨w.heap.size+1,1,none⟩=false:=(Below.frozen HB2.out (by simp)).trans (by simp [go_sem])
 have k2:w2.frozen? ⟨w.heap.size+1,2,none⟩=false:=(Below.frozen HB2.out (by simp)).trans (by simp [go_sem])
 have k3:w2.frozen? ⟨w.heap.size+1,3,none⟩=false:=(Below.frozen HB2.out (by simp)).trans (by simp [go_sem])
 have k4:w2.frozen? ⟨w.heap.size+1,4,none⟩=false:=(Below.frozen HB2.out (by simp)).trans (by simp [go_sem])
 have zD:w.heap.size+1<w2.heap.size:=World.block_lt_of_cell? _ _ d0
 go_wp2
 refine bodyPost_ret (v:=.tuple #[.agg #[.slice none 0 0,.map none,.map none,.slice none 0 0,.slice none 0 0],.int .i64 10]) (by simp [results,Tryz.results28,go_sem, *]) rfl ⟨rfl, ?_⟩
 with_reducible repeat' (first | exact bl_via (bl_alloc (bl_alloc (bl_refl _))) HB2.out | refine bl_set ?_ ?_ | refine bl_drew ?_ | refine bl_alloc ?_)
 all_goals (dsimp only;omega)
set_option maxRecDepth 100000 in
set_option maxHeartbeats 6400000 in
theorem lay_none (w:World) (W H:Int) (a cb ah:Option Addr) (m ca n ccap hn hc:Nat) (CP:Hid (∀ V:World,Below w.heap.size w V→Calls Tryz.prog 28 #[.agg #[.int .i64 W,.int .i64 H,.slice a m ca,.slice cb n ccap]] V fun e w'=>e=.returned (.tuple #[.agg #[.slice none 0 0,.map none,.map none,.slice none 0 0,.slice none 0 0],.int .i64 10])∧Below V.heap.size V w')) :
  Calls Tryz.prog 7 #[.agg #[.int .i64 W,.int .i64 H,.slice a m ca,.slice cb n ccap],.slice ah hn hc] w fun e w'=>e=.returned (.tuple #[.agg #[.int .i64 0,.int .i64 0,.slice none 0 0,.slice none 0 0,.slice none 0 0,.slice none 0 0],.int .i64 10])∧Below w.heap.size w w':=by
 go_enter Tryz.func7,Tryz.ntmps7
 go_upto_region 1 with fail
 refine wp_named (fun W0 hW0=>?_)
 have hw0:Below w.heap.size w W0:=by rw [hW0];exact bl_alloc (bl_alloc (bl_alloc (bl_refl _)))
 have x00:W0.cell? ⟨w.heap.size,0,none⟩=some (.int .i64 W):=by rw [hW0];simp [go_sem]
 have x01:W0.cell? ⟨w.heap.size,1,none⟩=some (.int .i64 H):=by rw [hW0];simp [go_sem]
 have x02:W0.cell? ⟨w.heap.size,2,none⟩=some (.slice a m ca):=by rw [hW0];simp [go_sem]
 have x03:W0.cell? ⟨w.heap.size,3,none⟩=some (.slice cb n ccap):=by rw [hW0];simp [go_sem]
 have x04:W0.cell? ⟨w.heap.size+1,0,none⟩=some (.slice ah hn hc):=by rw [hW0];simp [go_sem]
 have y00:W0.cell? ⟨w.heap.size+2,0,none⟩=some (.int .i64 0):=by rw [hW0];simp [go_sem]
 have f00:W0.frozen? ⟨w.heap.size+2,0,none⟩=false:=by rw [hW0];simp [go_sem]
 have y01:W0.cell? ⟨w.heap.size+2,1,none⟩=some (.int .i64 0):=by rw [hW0];simp [go_sem]
 have f01:W0.frozen? ⟨w.heap.size+2,1,none⟩=false:=by rw [hW0];simp [go_sem]
 have y02:W0.cell? ⟨w.heap.size+2,2,none⟩=some (.slice none 0 0):=by rw [hW0];simp [go_sem]
 have f02:W0.frozen? ⟨w.heap.size+2,2,none⟩=false:=by rw [hW0];simp [go_sem]
 have y03:W0.cell? ⟨w.heap.size+2,3,none⟩=some (.slice none 0 0):=by rw [hW0];simp [go_sem]
 have f03:W0.frozen? ⟨w.heap.size+2,3,none⟩=false:=by rw [hW0];simp [go_sem]
 have y04:W0.cell? ⟨w.heap.size+2,4,none⟩=some (.slice none 0 0):=by rw [hW0];simp [go_sem]
 have f04:W0.frozen? ⟨w.heap.size+2,4,none⟩=false:=by rw [hW0];simp [go_sem]
 have y05:W0.cell? ⟨w.heap.size+2,5,none⟩=some (.slice none 0 0):=by rw [hW0];simp [go_sem]
 have f05:W0.frozen? ⟨w.heap.size+2,5,none⟩=false:=by rw [hW0];simp [go_sem]
 have z0:w.heap.size+2<W0.heap.size:=World.block_lt_of_cell? _ _ y00
 clear hW0
 go_upto_region 2 with (go_at_call 28;refine (CP.out _ hw0).mono ?_;rintro e w1 ⟨rfl,hb1⟩)
 have x10:=cl_kept hb1 x00
 have x11:=cl_kept hb1 x01
 have x12:=cl_kept hb1 x02
 have x13:=cl_kept hb1 x03
 have x14:=cl_kept hb1 x04
 have y10:=cl_kept hb1 y00
 have f10:=(hb1.frozen (p:=⟨w.heap.size+2,0,none⟩) z0).trans f00
 have y11:=cl_kept hb1 y01
 have f11:=(hb1.frozen (p:=⟨w.heap.size+2,1,none⟩) z0).trans f01
 have y12:=cl_kept hb1 y02
 have f12:=(hb1.frozen (p:=⟨w.heap.size+2,2,none⟩) z0).trans f02
 have y13:=cl_kept hb1 y03
 have f13:=(hb1.frozen (p:=⟨w.heap.size+2,3,none⟩) z0).trans f03
 have y14:=cl_kept hb1 y04
 have f14:=(hb1.frozen (p:=⟨w.heap.size+2,4,none⟩) z0).trans f04
 have y15:=cl_kept hb1 y05
 have f15:=(hb1.frozen (p:=⟨w.heap.size+2,5,none⟩) z0).trans f05
 have z1:=Nat.lt_of_lt_of_le z0 hb1.size
 clear x00 x01 x02 x03 x04 y00 f00 y01 f01 y02 f02 y03 f03 y04 f04 y05 f05
 have HB1:Hid (Below w.heap.size w w1):=bl_via hw0 hb1
 clear hb1 hw0 x10 x11 x12 x13 x14
 go_wp2
 refine bodyPost_ret (v:=.tuple #[.agg #[.int .i64 0,.int .i64 0,.slice none 0 0,.slice none 0 0,.slice none 0 0,.slice none 0 0],.int .i64 10]) (by simp [results,Tryz.results7,go_sem, *]) rfl ⟨rfl, ?_⟩
 with_reducible repeat' (first | exact HB1.out | refine bl_set ?_ ?_ | refine bl_drew ?_ | refine bl_alloc ?_)
 all_goals (dsimp only;omega)
set_option maxHeartbeats 1600000 in
theorem none_yes (w:World) :
  Calls Tryz.prog 11 #[.agg #[.int .i64 0,.int .i64 0,.slice none 0 0,.slice none 0 0,.slice none 0 0,.slice none 0 0]] w fun e w'=>e=.returned (.bool true)∧Below w.heap.size w w':=by
 go_enter Tryz.func11,Tryz.ntmps11
 go_wp2
 go_ret
 exact ⟨rfl,by with_reducible repeat (first | exact bl_refl _ | refine bl_drew ?_ | refine bl_alloc ?_)⟩
open Go.RowKit
theorem insN_at {h:Nat→Int} {i:Nat}:∀ (l:List Nat) (n:Nat),n≤l.length→(∀ j (hj:j<l.length),j<n→h l[j]<h i)→(∀ hn:n<l.length,¬ h l[n]<h i)→insN h i l=l.take n ++ i :: l.drop n
 | [],n,hn,_,_=>by
  have:n=0:=by simpa using hn
  subst this
  rfl
 | a :: r,0,_,_,h2=>by
  have:=h2 (by simp)
  simp at this
  unfold insN
  rw [if_neg (by omega)]
  rfl
 | a :: r,n+1,hn,h1,h2=>by
  have h0:=h1 0 (by simp) (by omega)
  simp at h0
  unfold insN
  rw [if_pos h0,insN_at r n (by simpa using hn) (fun j hj hjn=>h1 (j+1) (Nat.succ_lt_succ hj) (by omega)) (fun hn'=>h2 (Nat.succ_lt_succ hn'))]
  rfl
theorem insS_new {h:Nat→Int} {i:Nat} {at_:Int×Int×Int}:∀ (S:List ((Int×Int×Int)×List Nat)) (k:Nat),k≤S.length→(∀ j (hj:j<S.length),j<k→ltB S[j].1 at_=true)→(∀ hk:k<S.length,ltB S[k].1 at_=false∧S[k].1≠at_)→insS h i at_ S=S.take k ++ (at_,[i]) :: S.drop k
 | [],k,hk,_,_=>by
  have:k=0:=by simpa using hk
  subst this
  rfl
 | a :: r,0,_,_,h2=>by
  have:=h2 (by simp)
  simp at this
  unfold insS
  rw [if_neg (by simp [this.1]),if_neg this.2]
  rfl
 | a :: r,k+1,hk,h1,h2=>by
  have h0:=h1 0 (by simp) (by omega)
  simp at h0
  unfold insS
  rw [if_pos h0,insS_new r k (by simpa using hk) (fun j hj hjn=>h1 (j+1) (Nat.succ_lt_succ hj) (by omega)) (fun hk'=>h2 (Nat.succ_lt_succ hk'))]
  rfl
theorem insS_old {h:Nat→Int} {i:Nat} {at_:Int×Int×Int}:∀ (S:List ((Int×Int×Int)×List Nat)) (k:Nat) (hk:k<S.length),(∀ j (hj:j<S.length),j<k→ltB S[j].1 at_=true)→S[k].1=at_→insS h i at_ S=S.set k (at_,insN h i S[k].2)
 | a :: r,0,_,_,h2=>by
  simp at h2
  have hn:¬ ltB a.1 at_=true:=fun e=>ltT_irr at_ (by rw [← h2] at e ⊢;exact ltB_iff.1 e)
  unfold insS
  rw [if_neg hn,if_pos h2]
  simp [h2]
 | a :: r,k+1,hk,h1,h2=>by
  have h0:=h1 0 (by simp) (by omega)
  simp at h0
  unfold insS
  rw [if_pos h0,insS_old r k (by simpa using hk) (fun j hj hjn=>h1 (j+1) (Nat.succ_lt_succ hj) (by omega)) h2]
  rfl
theorem shift_step {α:Type} (S:List α) (y : α) (j:Nat) (hj:j+1≤S.length):(S.take (j+1) ++ y :: S.drop (j+1)).set (j+1) (S[j]'(by omega))=S.take j ++ (S[j]'(by omega)) :: S.drop j:=by
 have e1:(S.take (j+1)).length=j+1:=by rw [List.length_take];omega
 have e2:S.drop j=S[j]'(by omega) :: S.drop (j+1):=List.drop_eq_getElem_cons (by omega)
 have e3:S.take (j+1)=S.take j ++ [S[j]'(by omega)]:=by
  rw [List.take_add_one,List.getElem?_eq_getElem (by omega)]
  rfl
 rw [List.set_append_right _ _ (by omega),e1,Nat.sub_self,List.set_cons_zero,← e2,e3,List.append_assoc]
 rfl
theorem shift_put {α:Type} (S:List α) (x y : α) (k:Nat) (hk:k≤S.length):(S.take k ++ y :: S.drop k).set k x=S.take k ++ x :: S.drop k:=by
 have e1:(S.take k).length=k:=by rw [List.length_take];omega
 rw [List.set_append_right _ _ (by omega),e1,Nat.sub_self,List.set_cons_zero]
theorem shift_start {α:Type} (S:List α) (y : α):S ++ [y]=S.take S.length ++ y :: S.drop S.length:=by simp
theorem shift_before {α:Type} (S:List α) (y : α) (j:Nat) (hj:j+1≤S.length):(S.take (j+1) ++ y :: S.drop (j+1))[j]?=some (S[j]'(by omega)):=by
 rw [List.getElem?_append_left (by rw [List.length_take];omega),List.getElem?_take_of_lt (by omega),List.getElem?_eq_getElem (by omega)]
def flatM (M:Nat→M6) (n:Nat):List Value:=(List.range n).flatMap fun i=>[.int .i64 (M i).1,.int .i64 (M i).2.1,.int .i64 (M i).2.2.1,.int .i64 (M i).2.2.2.1,.int .i64 (M i).2.2.2.2.1,.int .i64 (M i).2.2.2.2.2]
theorem flatM_succ (M:Nat→M6) (n:Nat):flatM M (n+1)=flatM M n ++ [.int .i64 (M n).1,.int .i64 (M n).2.1,.int .i64 (M n).2.2.1,.int .i64 (M n).2.2.2.1,.int .i64 (M n).2.2.2.2.1,.int .i64 (M n).2.2.2.2.2]:=by
 unfold flatM
 rw [List.range_succ,List.flatMap_append]
 simp
theorem flatM_len (M:Nat→M6):∀ n,(flatM M n).length=n*6
 | 0=>rfl
 | n+1=>by
  rw [flatM_succ,List.length_append,flatM_len M n]
  simp
  omega
theorem flatM_at (M:Nat→M6):∀ (n i:Nat),i<n→(flatM M n)[i*6]?=some (.int .i64 (M i).1)∧(flatM M n)[i*6+1]?=some (.int .i64 (M i).2.1)∧(flatM M n)[i*6+2]?=some (.int .i64 (M i).2.2.1)∧(flatM M n)[i*6+3]?=some (.int .i64 (M i).2.2.2.1)∧(flatM M n)[i*6+4]?=some (.int .i64 (M i).2.2.2.2.1)∧(flatM M n)[i*6+5]?=some (.int .i64 (M i).2.2.2.2.2)
 | 0,i,h=>by omega
 | n+1,i,h=>by
  have hl:=flatM_len M n
  rw [flatM_succ]
  by_cases e:i=n
  ·subst e
   refine ⟨?_, ?_, ?_, ?_, ?_, ?_⟩
   all_goals
    rw [List.getElem?_append_right (by omega)]
    simp [hl]
  ·obtain ⟨h0,h1,h2,h3,h4,h5⟩:=flatM_at M n i (by omega)
   refine ⟨?_, ?_, ?_, ?_, ?_, ?_⟩
   all_goals
    rw [List.getElem?_append_left (by omega)]
    assumption
theorem MRow.flat {w:World} {g n:Nat} {M:Nat→M6} (h:MRow w g n M):∀ j u,(flatM M n)[j]?=some u→w.cell? ((⟨g,0,none⟩:Addr).add j)=some u:=fun j u hu=>by
 have hj:j<n*6:=by
  rcases Nat.lt_or_ge j (n*6) with q | q
  ·exact q
  ·rw [List.getElem?_eq_none (by rw [flatM_len];exact q)] at hu
   cases hu
 have hi:j / 6<n:=by omega
 obtain ⟨⟨c0,c1,c2,c3,c4,c5⟩,_⟩:=h (j / 6) hi
 obtain ⟨f0,f1,f2,f3,f4,f5⟩:=flatM_at M n (j / 6) hi
 have ej:(⟨g,0,none⟩:Addr).add j=⟨g,j,none⟩:=by simp [Addr.add] <;> omega
 rw [ej]
 have:j % 6=0∨j % 6=1∨j % 6=2∨j % 6=3∨j % 6=4∨j % 6=5:=by omega
 rcases this with e | e | e | e | e | e
 ·have q:j=j / 6*6:=by omega
  rw [q] at hu ⊢
  rw [f0] at hu
  rw [c0]
  exact hu
 ·have q:j=j / 6*6+1:=by omega
  rw [q] at hu ⊢
  rw [f1] at hu
  rw [c1]
  exact hu
 ·have q:j=j / 6*6+2:=by omega
  rw [q] at hu ⊢
  rw [f2] at hu
  rw [c2]
  exact hu
 ·have q:j=j / 6*6+3:=by omega
  rw [q] at hu ⊢
  rw [f3] at hu
  rw [c3]
  exact hu
 ·have q:j=j / 6*6+4:=by omega
  rw [q] at hu ⊢
  rw [f4] at hu
  rw [c4]
  exact hu
 ·have q:j=j / 6*6+5:=by omega
  rw [q] at hu ⊢
  rw [f5] at hu
  rw [c5]
  exact hu
theorem own_maps {w:World} {base g n c:Nat} {M:Nat→M6} (h:w.ownsRow base 89 6 (.slice (some ⟨g,0,none⟩) n c) n (flatM M n)):MRow w g n M:=fun i hi=>by
 obtain ⟨f0,f1,f2,f3,f4,f5⟩:=flatM_at M n i hi
 exact ⟨⟨(h.cellAt _ (by omega)).trans f0,(h.cellAt _ (by omega)).trans f1,(h.cellAt _ (by omega)).trans f2,(h.cellAt _ (by omega)).trans f3,(h.cellAt _ (by omega)).trans f4,(h.cellAt _ (by omega)).trans f5⟩,h.frozenAt _,h.frozenAt _,h.frozenAt _,h.frozenAt _,h.frozenAt _,h.frozenAt _⟩
open Go.RowKit Go.ChangeMaps
theorem row_getH {w:World} {g o:Nat} {hs:List Int} (h:Row w (some ⟨g,o,none⟩) hs) {i:Nat} (hi:i<hs.length):w.cell? ⟨g,o+i,none⟩=some (.int .i64 (hs.getD i 0)):=by
 obtain ⟨b,off,e,hc⟩:=h i hi
 cases e
 rw [hc,List.getD_eq_getElem?_getD,List.getElem?_eq_getElem hi]
 rfl
theorem nodup_atH {α:Type} {l:List α} (h:l.Nodup) {i j:Nat} (hi:i<l.length) (hj:j<l.length) (e:l[i]=l[j]):i=j:=by
 have hp:=List.pairwise_iff_getElem.1 h
 rcases Nat.lt_trichotomy i j with q | q | q
 ·exact absurd e (hp i j hi hj q)
 ·exact q
 ·exact absurd e.symm (hp j i hj hi q)
theorem four_oneH (a b c:Int) (d:Option Addr) (n m:Nat):∀ u ∈ [Value.int .i64 a,.int .i64 b,.int .i64 c,.slice d n m],u.oneCell'=true:=by
 intro u hu
 simp at hu
 rcases hu with rfl | rfl | rfl | rfl <;> rfl
theorem inf98H:(Tryz.prog.info? 102).map (fun i=>(i.zero,i.size,i.bytes))=some (some (.agg #[.int .i64 0,.int .i64 0,.int .i64 0,.slice none 0 0]),4,48):=by kernel_rfl
theorem cell_fourH (w:World) (a b c d:Value) (T:TypeId):∀ j u,([a,b,c,d])[j]?=some u→(w.alloc (.cells #[a,b,c,d] T)).cell? ((⟨w.heap.size,0,none⟩:Addr).add j)=some u:=by
 intro j u hu
 match j,hu with
 | 0,hu=>simp at hu;subst hu;simp [Addr.add,go_sem]
 | 1,hu=>simp at hu;subst hu;simp [Addr.add,go_sem]
 | 2,hu=>simp at hu;subst hu;simp [Addr.add,go_sem]
 | 3,hu=>simp at hu;subst hu;simp [Addr.add,go_sem]
theorem run_append_empty {P:Program} (w:World) (t ty e:TypeId) (i:TypeInfo) (ht:P.underlying t=some (.slice e)) (hi:P.info? e=some i) (g n cap:Nat) (hn:n≤cap) (ao:Option Addr) (c:Nat) :
  (Builtin.append_ #[t,t] ty #[.slice (some ⟨g,0,none⟩) n cap,.slice ao 0 c]).run P w=.ok (.slice (some ⟨g,0,none⟩) n cap) w:=by
 cases ao <;> simp [Builtin.append_,run_underlying ht,run_sizeOf w hi,Builtin.lenOf,Builtin.firstCells,loadCells,loadCellsFrom,hn,storeCells]
theorem step_append_empty {P:Program} {ops:Array Oper} {o:Oper} {a:Act} {w:World} {K:Act→World→Prop} {Q:Exit→Act→World→Prop} {E:Prop} (hgd:o.guard=none) (s x:Operand) (t:TypeId)
  (ho:o.op=.call { callee:=.builtin .append,args:=#[s,x],argTypes:=#[t,t] })
  (e:TypeId) (i:TypeInfo) (ht:P.underlying t=some (.slice e)) (hi:P.info? e=some i) (g n cap:Nat) (hn:n≤cap) (ao:Option Addr) (c:Nat)
  (hs:a.eval s=.slice (some ⟨g,0,none⟩) n cap) (hx:a.eval x=.slice ao 0 c)
  (h:K (a.put o.dst (.slice (some ⟨g,0,none⟩) n cap)) w) :
  if Region.wanted o (yielded ops a.tmps)=true then Oper.wp P o a w K Q else E:=by
 have hw:Region.wanted o (yielded ops a.tmps)=true:=by simp [Region.wanted,hgd]
 rw [if_pos hw]
 have hrun:=run_append_empty (P:=P) w t o.type e i ht hi g n cap hn ao c
 unfold Oper.wp
 simp [execOp,ho,resolve,invoke,builtin,hs,hx,hrun,Result.andThen]
 exact h
open Go.RowKit Go.ChangeMaps
def hpN (pl:Nat→Int×Int×Int) (h:Nat→Int):Nat→List ((Int×Int×Int)×List Nat)
 | 0=>[]
 | i+1=>insS h i (pl i) (hpN pl h i)
theorem insS_len (h:Nat→Int) (i:Nat) (a:Int×Int×Int):∀ S:List ((Int×Int×Int)×List Nat),(insS h i a S).length≤S.length+1
 | []=>by simp [insS]
 | s :: r=>by
  have:=insS_len h i a r
  unfold insS
  repeat' split
  all_goals (simp only [List.length_cons];omega)
theorem hpN_len (pl:Nat→Int×Int×Int) (h:Nat→Int):∀ i,(hpN pl h i).length≤i
 | 0=>by simp [hpN]
 | i+1=>by
  have:=hpN_len pl h i
  have:=insS_len h i (pl i) (hpN pl h i)
  unfold hpN
  omega
def tg (L:List (Int×Int×Int)) (j:Nat):Int×Int×Int:=L.getD j (0,0,0)
def trS (L:List (Int×Int×Int)) (S:List ((Int×Int×Int)×List Nat)):List ((Int×Int×Int)×List (Int×Int×Int)):=S.map fun s=>(s.1,s.2.map (tg L))
def hvs (hs:List Int) (k:Nat):Int:=hs.getD k 0
def mvP (L:List (Int×Int×Int)) (M:Nat→M6) (i:Nat):Int×Int×Int:=mvt (M i) (tg L i)
theorem own_sliceW {w:World} {base e k n:Nat} {v:Value} {xs:List Value} (h:w.ownsRow base e k v n xs) (hn:0<n):∃ g q,v=.slice (some ⟨g,0,none⟩) n q:=by
 rcases h.2 with ⟨_,h0⟩ | ⟨g,cap,cur,hv,_⟩
 ·omega
 ·exact ⟨g,cap,hv⟩
theorem box3 {w w8:World} (hb:Below (w.drew.alloc (.cells #[.int .i64 0,.int .i64 0,.int .i64 0] 56)).heap.size (w.drew.alloc (.cells #[.int .i64 0,.int .i64 0,.int .i64 0] 56)) w8):w8.cell? ⟨w.heap.size,0,none⟩=some (.int .i64 0)∧w8.cell? ⟨w.heap.size,1,none⟩=some (.int .i64 0)∧w8.cell? ⟨w.heap.size,2,none⟩=some (.int .i64 0)∧w8.frozen? ⟨w.heap.size,0,none⟩=false∧w8.frozen? ⟨w.heap.size,1,none⟩=false∧w8.frozen? ⟨w.heap.size,2,none⟩=false :=
 ⟨cl_kept hb (by simp [go_sem]),cl_kept hb (by simp [go_sem]),cl_kept hb (by simp [go_sem]),(Below.frozen hb (by simp)).trans (by simp [go_sem]),(Below.frozen hb (by simp)).trans (by simp [go_sem]),(Below.frozen hb (by simp)).trans (by simp [go_sem])⟩
theorem box3k {w w8:World} {G:Prop} (hb:Below (w.drew.alloc (.cells #[.int .i64 0,.int .i64 0,.int .i64 0] 56)).heap.size (w.drew.alloc (.cells #[.int .i64 0,.int .i64 0,.int .i64 0] 56)) w8) (h:(w8.cell? ⟨w.heap.size,0,none⟩=some (.int .i64 0)∧w8.cell? ⟨w.heap.size,1,none⟩=some (.int .i64 0)∧w8.cell? ⟨w.heap.size,2,none⟩=some (.int .i64 0)∧w8.frozen? ⟨w.heap.size,0,none⟩=false∧w8.frozen? ⟨w.heap.size,1,none⟩=false∧w8.frozen? ⟨w.heap.size,2,none⟩=false)→G):G:=h (box3 hb)
def Past (S:List ((Int×Int×Int)×List Nat)) (P:Int×Int×Int) (k:Nat):Prop := ∀ j (hj:j<S.length),j<k→ltB S[j].1 P=true
def Found (S:List ((Int×Int×Int)×List Nat)) (P:Int×Int×Int) (k:Nat):Prop:=Past S P k∧∀ hk:k<S.length,ltB S[k].1 P=false
theorem past_next {S:List ((Int×Int×Int)×List Nat)} {P:Int×Int×Int} {k:Nat} (h:Past S P k) (hk:k<S.length) (hl:ltB S[k].1 P=true):Past S P (k+1):=fun j hj hjk=>by
 by_cases e:j=k
 ·subst e
  exact hl
 ·exact h j hj (by omega)
theorem own_any {w:World} {base e k n:Nat} {v:Value} {xs:List Value} (h:w.ownsRow base e k v n xs):∃ a c,v=.slice a n c:=by
 rcases h.2 with ⟨e1,e2⟩ | ⟨g,cap,cur,hv,_⟩
 ·subst e2
  exact ⟨none,0,e1⟩
 ·exact ⟨_,cap,hv⟩
theorem own_some2 {w:World} {base e k n m c:Nat} {a:Option Addr} {xs:List Value} (h:w.ownsRow base e k (.slice a m c) n xs) (h0:0<n):∃ g,a=some ⟨g,0,none⟩:=by
 obtain ⟨g,q,e⟩:=own_sliceW h h0
 cases e
 exact ⟨g,rfl⟩
theorem HSt.cells {w0 wx:World} {B gv r cv:Nat} {p0 p1 p2 p3 p4:Value} {R:List ((Int×Int×Int)×Value)} {S:List ((Int×Int×Int)×List (Int×Int×Int))} (h:HSt w0 wx B p0 p1 p2 p3 p4 (.slice (some ⟨gv,0,none⟩) r cv) R S) (hr:r=R.length) {k:Nat} (hk:k<R.length):wx.cell? ⟨gv,k*4,none⟩=some (.int .i64 R[k].1.1)∧wx.cell? ⟨gv,k*4+1,none⟩=some (.int .i64 R[k].1.2.1)∧wx.cell? ⟨gv,k*4+2,none⟩=some (.int .i64 R[k].1.2.2)∧wx.cell? ⟨gv,k*4+3,none⟩=some R[k].2:=by
 obtain ⟨e0,e1,e2,e3⟩:=rowS_at R k hk
 have hl:=rowS_len R
 subst hr
 have ho:=h.own
 exact ⟨(ho.cellAt (k*4) (by omega)).trans e0,(ho.cellAt (k*4+1) (by omega)).trans e1,(ho.cellAt (k*4+2) (by omega)).trans e2,(ho.cellAt (k*4+3) (by omega)).trans e3⟩
theorem neq85 (x y k X Y K:Int) (w:World) :
  (binOp .neq 56 (.agg #[.int .i64 x,.int .i64 y,.int .i64 k]) (.agg #[.int .i64 X,.int .i64 Y,.int .i64 K])).run Tryz.prog w=.ok (.bool (!sameT x y k X Y K)) w:=by
 by_cases h1:x=X
 ·subst h1
  by_cases h2:y=Y
  ·subst h2
   by_cases h3:k=K
   ·subst h3
    simp [go_sem,sameT]
   ·have e:(k == K)=false:=by simpa using h3
    simp [go_sem,sameT,e,h3]
  ·have e:(y == Y)=false:=by simpa using h2
   simp [go_sem,sameT,e,h2]
 ·have e:(x == X)=false:=by simpa using h1
  simp [go_sem,sameT,e,h1]
def withP (S:List ((Int×Int×Int)×List Nat)) (P:Int×Int×Int) (k:Nat):List ((Int×Int×Int)×List Nat):=if decide (¬ ∃ h:k<S.length,S[k].1=P)=true then S.take k ++ (P,[]) :: S.drop k else S
def ShiftS (w4 wx:World) (B _r:Nat) (v:Value) (R:List ((Int×Int×Int)×Value)) (T:List ((Int×Int×Int)×List (Int×Int×Int))) (A:Nat) (P0 P1 P2:Int) (p0 p1 p2 p3 p4:Value) (j:Nat):Prop := ∃ y z,HSt w4 wx B p0 p1 p2 p3 p4 v (R.take j ++ y :: R.drop j) (T.take j ++ z :: T.drop j)∧wx.cell? ⟨A,0,none⟩=some (.int .i64 P0)∧wx.cell? ⟨A,1,none⟩=some (.int .i64 P1)∧wx.cell? ⟨A,2,none⟩=some (.int .i64 P2)
theorem HSt.put4 {w0 wx:World} {B gv cv r:Nat} {p0 p1 p2 p3 p4:Value} {R:List ((Int×Int×Int)×Value)} {S:List ((Int×Int×Int)×List (Int×Int×Int))} (h:HSt w0 wx B p0 p1 p2 p3 p4 (.slice (some ⟨gv,0,none⟩) r cv) R S) (hr:r=R.length) {i:Nat} (hi:i<R.length) (t:Int×Int×Int) (u:Value) (l:List (Int×Int×Int)) (hu:∀ g,u.ownBlock=some g→B<g∧g<wx.heap.size∧g≠gv) (hT:TrisAt wx u l) :
  HSt w0 ((((wx.setCell ⟨gv,i*4,none⟩ (.int .i64 t.1)).setCell ⟨gv,i*4+1,none⟩ (.int .i64 t.2.1)).setCell ⟨gv,i*4+2,none⟩ (.int .i64 t.2.2)).setCell ⟨gv,i*4+3,none⟩ u) B p0 p1 p2 p3 p4 (.slice (some ⟨gv,0,none⟩) r cv) (R.set i (t,u)) (S.set i (t,l)):=by
 subst hr
 obtain ⟨o1,g1⟩:=h.own.stored (i*4) (.int .i64 t.1)
 obtain ⟨o2,g2⟩:=o1.stored (i*4+1) (.int .i64 t.2.1)
 obtain ⟨o3,g3⟩:=o2.stored (i*4+2) (.int .i64 t.2.2)
 obtain ⟨o4,g4⟩:=o3.stored (i*4+3) u
 rw [rowS_set R i t u hi] at o4
 exact h.put hi (gb_then (gb_then (gb_then g1 g2) g3) g4) o4 hu hT
theorem wrap_small {a:Int} (h:0≤a∧a≤300):IntKind.i64.wrap a=a:=by rw [IntKind.wrap_i64];omega
theorem insS_mem (h:Nat→Int) (i:Nat) (a:Int×Int×Int):∀ S:List ((Int×Int×Int)×List Nat),∀ s∈insS h i a S,∀ j∈s.2,j=i∨∃ s'∈S,j∈s'.2
 | []=>by simp [insS]
 | x :: r=>by
  intro s hs j hj
  unfold insS at hs
  split at hs
  ·rcases List.mem_cons.1 hs with rfl | hs
   ·exact Or.inr ⟨_,by simp,hj⟩
   ·rcases insS_mem h i a r s hs j hj with e | ⟨s',h1,h2⟩
    ·exact Or.inl e
    ·exact Or.inr ⟨s',by simp [h1],h2⟩
  ·split at hs
   ·rcases List.mem_cons.1 hs with rfl | hs
    ·rcases mem_insN.1 hj with e | e
     ·exact Or.inl e
     ·exact Or.inr ⟨x,by simp,e⟩
    ·exact Or.inr ⟨s,by simp [hs],hj⟩
   ·rcases List.mem_cons.1 hs with rfl | hs
    ·simp at hj
     exact Or.inl hj
    ·exact Or.inr ⟨s,hs,hj⟩
theorem hpN_lt (pl:Nat→Int×Int×Int) (h:Nat→Int):∀ i,∀ s∈hpN pl h i,∀ j∈s.2,j<i
 | 0=>by simp [hpN]
 | i+1=>fun s hs j hj=>by
  unfold hpN at hs
  rcases insS_mem h i (pl i) _ s hs j hj with e | ⟨s',h1,h2⟩
  ·omega
  ·have:=hpN_lt pl h i s' h1 j h2
   omega
theorem insN_len (h:Nat→Int) (i:Nat):∀ l:List Nat,(insN h i l).length=l.length+1
 | []=>by simp [insN]
 | x :: r=>by
  unfold insN
  split
  ·simp [insN_len h i r]
  ·simp
theorem insS_lens (h:Nat→Int) (i:Nat) (a:Int×Int×Int) (b:Nat):∀ S:List ((Int×Int×Int)×List Nat),(∀ s∈S,s.2.length≤b)→∀ s∈insS h i a S,s.2.length≤b+1
 | [],_=>by simp [insS]
 | x :: r,hS=>by
  intro s hs
  unfold insS at hs
  split at hs
  ·rcases List.mem_cons.1 hs with rfl | hs
   ·have:=hS s (by simp)
    omega
   ·exact insS_lens h i a b r (fun q hq=>hS q (by simp [hq])) s hs
  ·split at hs
   ·rcases List.mem_cons.1 hs with rfl | hs
    ·have:=hS x (by simp)
     simp only [insN_len]
     omega
    ·have:=hS s (by simp [hs])
     omega
   ·rcases List.mem_cons.1 hs with rfl | hs
    ·simp
    ·have:=hS s hs
     omega
theorem hpN_lens (pl:Nat→Int×Int×Int) (h:Nat→Int):∀ i,∀ s∈hpN pl h i,s.2.length≤i
 | 0=>by simp [hpN]
 | i+1=>by
  unfold hpN
  exact insS_lens h i (pl i) i _ (hpN_lens pl h i)
def Spot (h:Nat→Int) (i:Nat) (l:List Nat) (p:Nat):Prop:=(∀ j (hj:j<l.length),j<p→h l[j]<h i)∧∀ hp:p<l.length,¬ h l[p]<h i
def LowN (h:Nat→Int) (i:Nat) (l:List Nat) (p:Nat):Prop := ∀ j (hj:j<l.length),j<p→h l[j]<h i
theorem lowN_next {h:Nat→Int} {i p:Nat} {l:List Nat} (hL:LowN h i l p) (hp:p<l.length) (hl:h l[p]<h i):LowN h i l (p+1):=fun j hj hjp=>by
 by_cases e:j=p
 ·subst e
  exact hl
 ·exact hL j hj (by omega)
theorem withP_at {S:List ((Int×Int×Int)×List Nat)} {P:Int×Int×Int} {k:Nat} (h:Nat→Int) (i:Nat) (hF:Found S P k) (hk:k≤S.length):∃ hk':k<(withP S P k).length,(withP S P k)[k].1=P∧(∀ j∈(withP S P k)[k].2,∃ s∈S,j∈s.2)∧insS h i P S=(withP S P k).set k (P,insN h i (withP S P k)[k].2)∧((withP S P k)[k].2=[]∨∃ s∈S,(withP S P k)[k].2=s.2):=by
 by_cases e:∃ h:k<S.length,S[k].1=P
 ·have ew:withP S P k=S:=by
   unfold withP
   rw [if_neg (by simpa using e)]
  obtain ⟨h1,h2⟩:=e
  rw [ew]
  exact ⟨h1,h2,fun j hj=>⟨_,List.getElem_mem h1,hj⟩,insS_old S k h1 hF.1 h2,Or.inr ⟨_,List.getElem_mem h1,rfl⟩⟩
 ·have ew:withP S P k=S.take k ++ (P,[]) :: S.drop k:=by
   unfold withP
   rw [if_pos (by simpa using e)]
  rw [ew]
  have eg:(S.take k ++ (P,[]) :: S.drop k)[k]'(by simp;omega)=(P,[]):=by
   rw [List.getElem_append_right (by simp;omega)]
   simp [Nat.min_eq_left hk]
  refine ⟨by simp;omega,by rw [eg],by rw [eg];simp, ?_,Or.inl (by rw [eg])⟩
  rw [eg,shift_put S (P,insN h i []) (P,[]) k hk]
  exact insS_new S k hk hF.1 (fun hk'=>⟨hF.2 hk',fun e9=>e ⟨hk',e9⟩⟩)
def CapsOk (R:List ((Int×Int×Int)×Value)):Prop := ∀ x∈R,∀ a n c,x.2=.slice a n c→n≤c
theorem caps_put {R:List ((Int×Int×Int)×Value)} (h:CapsOk R) (t:Int×Int×Int) (k:Nat):CapsOk (R.take k ++ (t,.slice none 0 0) :: R.drop k):=fun x hx a n c e=>by
 rcases List.mem_append.1 hx with hx | hx
 ·exact h x (List.mem_of_mem_take hx) a n c e
 ·rcases List.mem_cons.1 hx with rfl | hx
  ·simp at e
   omega
  ·exact h x (List.mem_of_mem_drop hx) a n c e
theorem flatV_len3:∀ l:List (Int×Int×Int),(flatV l).length=l.length*3
 | []=>rfl
 | x :: r=>by
  have:=flatV_len3 r
  simp only [flatV,List.flatMap_cons,List.length_append,List.length_cons,List.length_nil] at this ⊢
  omega
theorem flatV_one (l:List (Int×Int×Int)):∀ u∈flatV l,u.oneCell'=true:=fun u hu=>by
 simp only [flatV,List.mem_flatMap] at hu
 obtain ⟨x,_,hx⟩:=hu
 simp at hx
 rcases hx with rfl | rfl | rfl <;> rfl
theorem trow_flat {w:World} {g:Nat} {l:List (Int×Int×Int)} (h:TRow w (some ⟨g,0,none⟩) l) (j:Nat) (u:Value) (hu:(flatV l)[j]?=some u):w.cell? ⟨g,j,none⟩=some u:=by
 have hj:j<(flatV l).length:=(List.getElem?_eq_some_iff.1 hu).1
 rw [flatV_len3] at hj
 obtain ⟨q,hq⟩:∃ q,q=j / 3:=⟨_,rfl⟩
 have hql:q<l.length:=by omega
 obtain ⟨g',e,c0,c1,c2⟩:=h q hql
 cases e
 obtain ⟨f0,f1,f2⟩:=flatV_at l q hql
 have e3:j=q*3∨j=q*3+1∨j=q*3+2:=by omega
 clear hq hj
 rcases e3 with rfl | rfl | rfl
 ·rw [f0] at hu
  exact c0.trans hu
 ·rw [f1] at hu
  exact c1.trans hu
 ·rw [f2] at hu
  exact c2.trans hu
theorem trow_take {w:World} {g:Nat} {l:List (Int×Int×Int)} (h:TRow w (some ⟨g,0,none⟩) l) (p j:Nat) (u:Value) (hu:(flatV (l.take p))[j]?=some u):w.cell? ⟨g,j,none⟩=some u:=by
 refine trow_flat h j u ?_
 have e:flatV l=flatV (l.take p) ++ flatV (l.drop p):=by rw [← flatV_add,List.take_append_drop]
 rw [e,List.getElem?_append_left (List.getElem?_eq_some_iff.1 hu).1]
 exact hu
theorem addr_add (g o j:Nat):(⟨g,o,none⟩:Addr).add j=⟨g,o+j,none⟩:=by
 unfold Addr.add
 split <;> simp_all
theorem trow_drop {w:World} {g:Nat} {l:List (Int×Int×Int)} (h:TRow w (some ⟨g,0,none⟩) l) (p j:Nat) (u:Value) (hu:(flatV (l.drop p))[j]?=some u):w.cell? ⟨g,p*3+j,none⟩=some u:=by
 refine trow_flat h _ u ?_
 have e:flatV l=flatV (l.take p) ++ flatV (l.drop p):=by rw [← flatV_add,List.take_append_drop]
 have hj:j<(flatV (l.drop p)).length:=(List.getElem?_eq_some_iff.1 hu).1
 rw [flatV_len3,List.length_drop] at hj
 have hl:(flatV (l.take p)).length=p*3:=by rw [flatV_len3,List.length_take,Nat.min_eq_left (by omega)]
 rw [e,List.getElem?_append_right (by omega),hl,Nat.add_sub_cancel_left]
 exact hu
theorem hst_nil {w W5:World} {B:Nat} {p0 p1 p2 p3 p4:Value} (c0:W5.cell? ⟨B,0,none⟩=some p0) (c1:W5.cell? ⟨B,1,none⟩=some p1) (c2:W5.cell? ⟨B,2,none⟩=some p2) (c3:W5.cell? ⟨B,3,none⟩=some p3) (c4:W5.cell? ⟨B,4,none⟩=some p4) (c5:W5.cell? ⟨B,5,none⟩=some (.slice none 0 0)) (f5:W5.frozen? ⟨B,5,none⟩=false) (hB:w.heap.size≤B) (hb:Below w.heap.size w W5):HSt w W5 B p0 p1 p2 p3 p4 (.slice none 0 0) [] [] :=
 ⟨c0,c1,c2,c3,c4,c5,f5,⟨by simp [rowS],Or.inl ⟨rfl,rfl⟩⟩,by simp,rfl,fun i hi=>by simp at hi,hB,hb⟩
end Go.Proofs.YtgpjaecgkkgehaaGreatDoor
