/- A part of the proof of stackLays_holds. -/
import Derived.Test.YtgpjaecgkkgehaaGreatDoorQlbt
import Derived.Test.YtgpjaecgkkgehaaGreatDoorQlbx
import Derived.Test.YtgpjaecgkkgehaaGreatDoorQlbi
import Derived.Test.YtgpjaecgkkgehaaGreatDoorQlbf
import Derived.Test.YtgpjaecgkkgehaaGreatDoorQlbj
import Derived.Test.YtgpjaecgkkgehaaGreatDoorQlby
import Derived.Test.YtgpjaecgkkgehaaGreatDoorQlbg
import Derived.Test.YtgpjaecgkkgehaaGreatDoorQlbv
import Derived.Test.YtgpjaecgkkgehaaGreatDoorQlal
import Derived.Test.YtgpjaecgkkgehaaGreatDoorQlbu
import Derived.Test.YtgpjaecgkkgehaaGreatDoorQlam
set_option maxRecDepth 100000
set_option maxHeartbeats 40000000
namespace Go.Proofs
open Go.Shelf
def Tryz.blen_ren:Go.Shelf.Ren:=⟨fun | 15=>140 | 28=>171 | 29=>172 | n=>n,fun | 39=>182 | 3=>3 | 53=>210 | 55=>213 | 4=>4 | 5=>5 | 9=>9 | n=>n,fun | n=>n⟩
theorem Tryz.blen:Go.Proofs.SlLaysF0.n15 Tryz.prog Tryz.blen_ren:={
 mixed:=by kernel_rfl
 f15:=Tryz.func140.trans (congrArg some (by kernel_rfl))
 f28:=Tryz.func171.trans (congrArg some (by kernel_rfl))
 f29:=Tryz.func172.trans (congrArg some (by kernel_rfl))
 t3:=Tryz.underlying3
 a3:=Tryz.isAgg3
 z3:=Tryz.sizeOf3
 v3:=Tryz.zeroValue3
 t4:=Tryz.underlying4
 a4:=Tryz.isAgg4
 z4:=Tryz.sizeOf4
 v4:=Tryz.zeroValue4
 t5:=Tryz.underlying5
 a5:=Tryz.isAgg5
 z5:=Tryz.sizeOf5
 v5:=Tryz.zeroValue5
 t9:=Tryz.underlying9
 a9:=Tryz.isAgg9
 z9:=Tryz.sizeOf9
 v9:=Tryz.zeroValue9
 t39:=Tryz.underlying182
 a39:=Tryz.isAgg182
 z39:=Tryz.sizeOf182
 v39:=Tryz.zeroValue182
 t53:=Tryz.underlying210
 a53:=Tryz.isAgg210
 z53:=Tryz.sizeOf210
 v53:=Tryz.zeroValue210
 t55:=Tryz.underlying213
 a55:=Tryz.isAgg213
 z55:=Tryz.sizeOf213
 v55:=Tryz.zeroValue213 }
end Go.Proofs
namespace Go.Proofs.YtgpjaecgkkgehaaGreatDoor
open Go.RowKit
theorem sortNums_any (w:World) (g o n cap N:Nat) (rv:Value) (cf:Nat→Nat→Int) (hc:CmpF w g N rv cf) (hO:Sort.SWO (ltF cf)) (d:Array Nat) (hd:d.size=n) (hN:∀k,k<d.size→d[k]! < N) (hn:n≤300) (hw:SrtW w w g o d) :
  Calls Tryz.prog 110 #[.slice (some ⟨g,o,none⟩) n cap,.func (.func 111) #[rv] #[]] w fun e w'=>e=.returned (.tuple #[])∧∃d',Sort.PermIn 0 n d d'∧Sort.SortedIn (ltF cf) 0 n d'∧SrtW w w' g o d':=by
 have hlim:Lib.bitLen n≤62:=Lib.bitLen_le n 62 (by omega) (by omega)
 have hl:Calls Tryz.prog 140 #[.int .u64 (n:Int)] w fun e w'=>e=.returned (.int .i64 (Lib.bitLen n:Nat))∧w'=w:=by
  have h:=Any.bits_Len (SlLaysF0.n15.bits (P:=Tryz.prog) (ρ:=Tryz.blen_ren) Tryz.blen) (n:Int) w (by omega) (by omega)
  rw [Int.toNat_natCast] at h
  exact h
 obtain ⟨lm,hlm⟩:∃lm,lm=Lib.bitLen n:=⟨_,rfl⟩
 rw [←hlm] at hl hlim
 have HL:Hid (Calls Tryz.prog 140 #[.int .u64 (n:Int)] w fun e w'=>e=.returned (.int .i64 (lm:Int))∧w'=w):=hl
 have HP:Hid (Calls Tryz.prog 144 #[.slice (some ⟨g,o,none⟩) n cap,.int .i64 0,.int .i64 (n:Int),.int .i64 (lm:Int),.func (.func 111) #[rv] #[]] w fun e w'=>e=.returned (.tuple #[])∧SrtW w w' g o (Sort.pdq (ltF cf) d 0 n lm true true)):=by
  have:=pdq_any w g o n cap N rv cf hc hO hn (n+1) 0 n lm d w (by omega) hd hw (by omega) (by omega) (by omega) hN (Or.inl rfl)
  exact this
 have hs:=Sort.pdq_sorts (ltF cf) hO d 0 n lm true true (by omega) (by omega) (Or.inl rfl)
 obtain ⟨d',hd'⟩:∃d',d'=Sort.pdq (ltF cf) d 0 n lm true true:=⟨_,rfl⟩
 rw [←hd'] at HP hs
 have HS:Hid (Sort.PermIn 0 n d d'∧Sort.SortedIn (ltF cf) 0 n d'):=hs
 have wr:IntKind.u64.wrap (n:Int)=(n:Int):=by simp [IntKind.wrap,IntKind.bits,IntKind.signed];omega
 clear hs hd' hlm hl hw hc hO hN hd
 go_enter Tryz.func110,Tryz.ntmps110
 go_wp2_with (first|(go_at_call 140;refine HL.out.mono ?_;rintro e w1 ⟨rfl,hw1⟩;have hw3:=hw1.symm;clear hw1;subst hw3)|(go_at_call 144;refine HP.out.mono ?_;rintro e w2 ⟨rfl,hw2⟩;have HW2:Hid (SrtW w w2 g o d'):=hw2;clear hw2))
 go_end0
 exact ⟨rfl,d',HS.out.1,HS.out.2,HW2.out⟩
theorem ltF_key (h:Nat→Int):ltF (fun x y=>cmp3 (h x) (h y))=fun x y=>decide (h x<h y):=by
 funext x y
 unfold ltF cmp3
 by_cases q:h x<h y
 ·simp [q]
 ·by_cases q2:h y<h x
  ·simp [q,q2]
  ·simp [q,q2]
theorem sortsN_of (w:World) (N:Nat) (rv:Value) (h:Nat→Int) (hc:∀W:World,Bl w W→∀x y:Nat,x<N→y<N→Calls Tryz.prog 111 #[rv,.int .i64 (x:Int),.int .i64 (y:Int)] W fun e w'=>e=.returned (.int .i64 (cmp3 (h x) (h y)))∧Bl W w'):SortsN w N rv h:=by
 intro W g cap R hb hg hne hlen hR hN
 have hcf:CmpF W g N rv (fun x y=>cmp3 (h x) (h y)):=fun wx hgr x y hx hy=>hc wx (hb.grown hgr hb.size (fun r e=>by cases e;exact hg)) x y hx hy
 have hSO:Sort.SWO (ltF (fun x y=>cmp3 (h x) (h y))):=by rw [ltF_key];exact swo_key h
 have hlt:g<W.heap.size:=bk (hN 0 (List.length_pos_iff.2 hne)).1
 have hS:SrtW W W g 0 R.toArray:=⟨fun j hj=>by
  have hj2:j<R.length:=by simpa using hj
  obtain ⟨c1,c2⟩:=hN j hj2
  rw [Nat.zero_add,getElem!_pos _ j hj]
  simp only [List.getElem_toArray]
  exact ⟨c1,c2⟩,⟨rfl,rfl,rfl,Nat.le_refl _,fun _ _ _=>rfl⟩,hlt⟩
 refine (sortNums_any W g 0 R.length cap N rv _ hcf hSO R.toArray (by simp) (fun k hk=>by
  rw [getElem!_pos _ k hk]
  simp only [List.getElem_toArray]
  exact hR _ (List.getElem_mem _)) hlen hS).mono ?_
 rintro e w' ⟨rfl,d',hp,hs,hw⟩
 have hsz:d'.size=R.length:=by simpa using hp.1
 refine ⟨rfl,d'.toList,?_,?_,?_,hw.gr⟩
 ·have h3:=hp.2.2
  have e1:(d'.extract 0 R.length).toList=d'.toList:=by
   rw [←hsz]
   simp
  have e2:(R.toArray.extract 0 R.length).toList=R:=by simp
  rw [e1,e2] at h3
  exact h3
 ·unfold Upw
  rw [List.pairwise_iff_getElem]
  intro i j hi hj hij
  have:=hs i j (Nat.zero_le _) hij (by simpa [hsz] using hj)
  have hi2:i<d'.size:=by simpa using hi
  have hj2:j<d'.size:=by simpa using hj
  rw [getElem!_pos d' i hi2,getElem!_pos d' j hj2,ltF_key,decide_eq_false_iff_not] at this
  simpa using this
 ·intro i hi
  have hi2:i<d'.size:=by simpa using hi
  obtain ⟨c1,c2⟩:=hw.row i hi2
  rw [Nat.zero_add,getElem!_pos d' i hi2] at c1
  rw [Nat.zero_add] at c2
  exact ⟨by simpa using c1,c2⟩
theorem nodup_at {α:Type} {l:List α} (h:l.Nodup) {i j:Nat} (hi:i<l.length) (hj:j<l.length) (e:l[i]=l[j]):i=j:=by
 have hp:=List.pairwise_iff_getElem.1 h
 rcases Nat.lt_trichotomy i j with q|q|q
 ·exact absurd e (hp i j hi hj q)
 ·exact q
 ·exact absurd e.symm (hp j i hj hi q)
theorem face_map {kd:Int×Int×Int×Int→Int} {L:List (Int×Int×Int)} {M:Nat→M6} (hC:Cons kd L M) (hnd:L.Nodup) {t u:Int×Int×Int} (h:ReachC (fun e=>decide (kd e=0)) L t u):∀i j (hi:i<L.length) (hj:j<L.length),L[i]=t→L[j]=u→M i=M j:=by
 induction h using ReachC.ind with
 | here h =>
  intro i j hi hj e1 e2
  have:=nodup_at hnd hi hj (e1.trans e2.symm)
  rw [this]
 | @step u v hr hv ha ih =>
  intro i j hi hj e1 e2
  obtain ⟨k,hk,ek⟩:=List.getElem_of_mem hr.mem.2
  have h1:=ih i k hi hk e1 ek
  obtain ⟨hne,e,he1,he2,he3⟩:=ha
  have hkj:k≠j:=fun q=>hne (by subst q;rw [←e2,ek])
  have h2:=hC.2 k j hk hj e hkj (by rw [ek];exact he1) (by rw [e2];exact he2)
  have hz:kd e=0:=by simpa using he3
  rw [h2,farM,if_pos hz]
  exact h1
def lbs (part:Nat→Int) (n:Nat):List Nat:=(List.range n).map fun i=>(part i).toNat
theorem lbs_len (part:Nat→Int) (n:Nat):(lbs part n).length=n:=by simp [lbs]
theorem lbs_at {part:Nat→Int} {n i:Nat} (hi:i<n):(lbs part n).getD i 0=(part i).toNat:=by
 rw [List.getD_eq_getElem?_getD]
 simp [lbs,hi]
theorem faces_dis {kd:Int×Int×Int×Int→Int} {L:List (Int×Int×Int)} {M:Nat→M6} {part:Nat→Int} {hs:List Int} (hC:Cons kd L M) (hJ:Joined L) (hnd:L.Nodup) (hL:L.length≤300) (hbd:∀t∈L,(0≤t.1∧t.1≤8)∧(0≤t.2.1∧t.2.1≤8)∧(0≤t.2.2∧t.2.2≤3)) (hP:PartsOk (fun e=>decide (kd e=0)) L part) (hlt:∀i,i<L.length→part i<hs.length) (hN:hs.Nodup) :
  ∀i j,i<(pls L M L.length).length→j<(pls L M L.length).length→(pls L M L.length).getD i (0,0,0)=(pls L M L.length).getD j (0,0,0)→i≠j→hgt hs (lbs part L.length) i≠hgt hs (lbs part L.length) j:=by
 intro i j hi hj he hne hh
 rw [Xs] at hi hj
 have p1:=hP.1 i hi
 have p2:=hP.1 j hj
 have l1:=hlt i hi
 have l2:=hlt j hj
 have hpp:part i=part j:=by
  unfold hgt at hh
  rw [lbs_at hi,lbs_at hj] at hh
  have q1:(part i).toNat<hs.length:=by omega
  have q2:(part j).toNat<hs.length:=by omega
  rw [List.getD_eq_getElem?_getD,List.getD_eq_getElem?_getD,List.getElem?_eq_getElem q1,List.getElem?_eq_getElem q2] at hh
  have:=nodup_at hN q1 q2 (by simpa using hh)
  omega
 have hr:=hP.2.2.1 i j hi hj hpp
 have hM:=face_map hC hnd hr i j hi hj rfl rfl
 have hg:=cons_good hJ hnd hL hbd hC i hi
 have e1:(pls L M L.length).getD i (0,0,0)=mvt (M i) L[i]:=by
  rw [List.getD_eq_getElem?_getD]
  simp [pls,hi]
 have e2:(pls L M L.length).getD j (0,0,0)=mvt (M j) L[j]:=by
  rw [List.getD_eq_getElem?_getD]
  simp [pls,hj]
 rw [e1,e2,←hM] at he
 have:=mvt_inj hg.1 (hbd L[i] (List.getElem_mem hi)).2.2 (hbd L[j] (List.getElem_mem hj)).2.2 he
 exact hne (nodup_at hnd hi hj this)
end Go.Proofs.YtgpjaecgkkgehaaGreatDoor
namespace Go.Proofs.YtgpjaecgkkgehaaGreatDoor
open Go.RowKit Go.Shelf Go.Lib
theorem lay_tear (w:World) (W H:Int) (a cb ah:Option Addr) (m ca n ccap hn hc:Nat) (CP:Hid (∀V:World,Bl w V→Calls Tryz.prog 28 #[.agg #[.int .i64 W,.int .i64 H,.slice a m ca,.slice cb n ccap]] V fun e w'=>e=.returned (.tuple #[.agg #[.slice none 0 0,.map none,.map none,.slice none 0 0,.slice none 0 0],.int .i64 8])∧Bl V w')) :
  Calls Tryz.prog 7 #[.agg #[.int .i64 W,.int .i64 H,.slice a m ca,.slice cb n ccap],.slice ah hn hc] w fun e w'=>e=.returned (.tuple #[.agg #[.int .i64 0,.int .i64 0,.slice none 0 0,.slice none 0 0,.slice none 0 0,.slice none 0 0],.int .i64 8])∧Bl w w':=by
 go_enter Tryz.func7,Tryz.ntmps7
 go_upto_region 1 with fail
 refine Qr (fun W0 hW0=>?_)
 have hw0:Bl w W0:=by rw [hW0];exact Qb (Qb (Qb (Qc _)))
 have x00:W0.cell? ⟨w.heap.size,0,none⟩=some (.int .i64 W):=by rw [hW0];simp [go_sem]
 have x01:W0.cell? ⟨w.heap.size,1,none⟩=some (.int .i64 H):=by rw [hW0];simp [go_sem]
 have x02:W0.cell? ⟨w.heap.size,2,none⟩=some (.slice a m ca):=by rw [hW0];simp [go_sem]
 have x03:W0.cell? ⟨w.heap.size,3,none⟩=some (.slice cb n ccap):=by rw [hW0];simp [go_sem]
 have x04:W0.cell? ⟨w.heap.size+1,0,none⟩=some (.slice ah hn hc):=by rw [hW0];simp [go_sem]
 have y00:W0.cell? ⟨w.heap.size+2,0,none⟩=some (.int .i64 0):=by rw [hW0];simp [go_sem]
 have f00:W0.frozen? ⟨w.heap.size+2,0,none⟩=false:=by rw [hW0];simp [go_sem]
 have y01:W0.cell? ⟨w.heap.size+2,1,none⟩=some (.int .i64 0):=by rw [hW0];simp [go_sem]
 have f01:W0.frozen? ⟨w.heap.size+2,1,none⟩=false:=by rw [hW0];simp [go_sem]
 have y02:W0.cell? ⟨w.heap.size+2,2,none⟩=some (.slice none 0 0):=by rw [hW0];simp [go_sem]
 have f02:W0.frozen? ⟨w.heap.size+2,2,none⟩=false:=by rw [hW0];simp [go_sem]
 have y03:W0.cell? ⟨w.heap.size+2,3,none⟩=some (.slice none 0 0):=by rw [hW0];simp [go_sem]
 have f03:W0.frozen? ⟨w.heap.size+2,3,none⟩=false:=by rw [hW0];simp [go_sem]
 have y04:W0.cell? ⟨w.heap.size+2,4,none⟩=some (.slice none 0 0):=by rw [hW0];simp [go_sem]
 have f04:W0.frozen? ⟨w.heap.size+2,4,none⟩=false:=by rw [hW0];simp [go_sem]
 have y05:W0.cell? ⟨w.heap.size+2,5,none⟩=some (.slice none 0 0):=by rw [hW0];simp [go_sem]
 have f05:W0.frozen? ⟨w.heap.size+2,5,none⟩=false:=by rw [hW0];simp [go_sem]
 have z0:w.heap.size+2<W0.heap.size:=bk y00
 clear hW0
 go_upto_region 2 with (go_at_call 28;refine (CP.out _ hw0).mono ?_;rintro e w1 ⟨rfl,hb1⟩)
 have x10:=Qa hb1 x00
 have x11:=Qa hb1 x01
 have x12:=Qa hb1 x02
 have x13:=Qa hb1 x03
 have x14:=Qa hb1 x04
 have y10:=Qa hb1 y00
 have f10:=(hb1.frozen (p:=⟨w.heap.size+2,0,none⟩) z0).trans f00
 have y11:=Qa hb1 y01
 have f11:=(hb1.frozen (p:=⟨w.heap.size+2,1,none⟩) z0).trans f01
 have y12:=Qa hb1 y02
 have f12:=(hb1.frozen (p:=⟨w.heap.size+2,2,none⟩) z0).trans f02
 have y13:=Qa hb1 y03
 have f13:=(hb1.frozen (p:=⟨w.heap.size+2,3,none⟩) z0).trans f03
 have y14:=Qa hb1 y04
 have f14:=(hb1.frozen (p:=⟨w.heap.size+2,4,none⟩) z0).trans f04
 have y15:=Qa hb1 y05
 have f15:=(hb1.frozen (p:=⟨w.heap.size+2,5,none⟩) z0).trans f05
 have z1:=Nat.lt_of_lt_of_le z0 hb1.size
 clear x00 x01 x02 x03 x04 y00 f00 y01 f01 y02 f02 y03 f03 y04 f04 y05 f05
 have HB1:Hid (Bl w w1):=Qe hw0 hb1
 clear hb1 hw0 x10 x11 x12 x13 x14
 go_wp2
 refine bodyPost_ret (v:=.tuple #[.agg #[.int .i64 0,.int .i64 0,.slice none 0 0,.slice none 0 0,.slice none 0 0,.slice none 0 0],.int .i64 8]) (by simp [results,Tryz.results7,go_sem, *]) rfl ⟨rfl,?_⟩
 with_reducible repeat' (first|exact HB1.out|refine Ql ?_ ?_|refine Qf ?_|refine Qb ?_)
 all_goals (dsimp only;omega)
theorem foldl_max (l:List Int):∀m:Int,(∀x∈l,x≤l.foldl max m)∧m≤l.foldl max m∧(l.foldl max m=m∨l.foldl max m∈l):=by
 induction l with
 | nil=>intro m;simp
 | cons y r ih =>
  intro m
  obtain ⟨h1,h2,h3⟩:=ih (max m y)
  rw [List.foldl_cons]
  refine ⟨fun x hx=>?_,by omega,?_⟩
  ·rcases List.mem_cons.1 hx with rfl|hx
   ·omega
   ·exact h1 x hx
  ·rcases h3 with h3|h3
   ·rcases Int.le_total m y with q|q
    ·right
     have:max m y=y:=by omega
     rw [h3,this]
     simp
    ·left
     omega
   ·right
    simp [h3]
def topP (part:Nat→Int) (n:Nat):Int:=Lib.maxOf ((List.range n).map part)
theorem topP_le {part:Nat→Int} {n i:Nat} (hi:i<n):part i≤topP part n:=by
 have hm:part i∈(List.range n).map part:=List.mem_map.2 ⟨i,by simpa using hi,rfl⟩
 unfold topP Lib.maxOf
 exact (foldl_max _ _).1 _ hm
theorem topP_at {part:Nat→Int} {n:Nat} (h0:0<n):∃i,i<n∧part i=topP part n:=by
 unfold topP Lib.maxOf
 rcases (foldl_max ((List.range n).map part) (((List.range n).map part).headD 0)).2.2 with h|h
 ·refine ⟨0,h0,?_⟩
  rw [h]
  cases n with
  | zero=>omega
  | succ k=>simp [List.range_succ_eq_map]
 ·obtain ⟨i,hi,e⟩:=List.mem_map.1 h
  exact ⟨i,by simpa using hi,e⟩
theorem parts_le {cr:Int×Int×Int×Int→Bool} {L:List (Int×Int×Int)} {part:Nat→Int} (h:PartsOk cr L part):∀a,a<L.length→part a≤(a:Int):=by
 intro a
 induction a using Nat.strongRecOn with
 | ind a ih =>
  intro ha
  rcases Int.lt_or_le 0 (part a) with q|q
  ·obtain ⟨b,hb,e⟩:=h.2.2.2 a ha (part a - 1) (by omega) (by omega)
   have:=ih b hb (by omega)
   omega
  ·omega
theorem topP_bd {cr:Int×Int×Int×Int→Bool} {L:List (Int×Int×Int)} {part:Nat→Int} (h:PartsOk cr L part) (h0:0<L.length) (hL:L.length≤300):0≤topP part L.length∧topP part L.length≤299:=by
 obtain ⟨i,hi,e⟩:=topP_at (part:=part) h0
 have h1:=h.1 i hi
 have h2:=parts_le h i hi
 omega
theorem zrow_nrow {w:World} {g n:Nat} {part:Nat→Int} (h:ZRow w g n part) (h0:∀i,i<n→0≤part i):NRow w g 0 (lbs part n):=fun i hi=>by
 have hi2:i<n:=by simpa [lbs] using hi
 have h1:=(h i hi2).1
 have h2:=h0 i hi2
 rw [Nat.zero_add,h1]
 simp only [lbs,List.getElem_map,List.getElem_range]
 rw [Int.toNat_of_nonneg h2]
theorem row_some {w:World} {a:Option Addr} {zs:List Int} (h:Row w a zs) (h0:0<zs.length):∃g o,a=some ⟨g,o,none⟩:=by
 obtain ⟨b,off,e,_⟩:=h 0 h0
 exact ⟨b,off,e⟩
def LaidTo (w w':World) (W H:Int) (n nn:Nat) (zs ks hs:List Int) (L:List (Int×Int×Int)) (kd:Int×Int×Int×Int→Int) (e:Ending):Prop := ∃M part,Cons kd L M∧PartsOk (fun e=>decide (kd e=0)) L part∧Bl w w'∧(((hs.length:Int)≠topP part nn+1∧e=.returned (.tuple #[.agg #[.int .i64 0,.int .i64 0,.slice none 0 0,.slice none 0 0,.slice none 0 0,.slice none 0 0],.int .i64 2]))∨((hs.length:Int)=topP part nn+1∧¬hs.Nodup∧e=.returned (.tuple #[.agg #[.int .i64 0,.int .i64 0,.slice none 0 0,.slice none 0 0,.slice none 0 0,.slice none 0 0],.int .i64 6]))∨((hs.length:Int)=topP part nn+1∧hs.Nodup∧∃v,e=.returned (.tuple #[v,.int .i64 0])∧StateTo w w' W H n nn zs ks M L (plcA (pls L M nn)) (hgt hs (lbs part nn)) (.returned v)))
theorem lay_flat (w:World) (W H:Int) (a cb ah:Option Addr) (m ca n ccap hn hc nn:Nat) (zs ks hs:List Int) (L:List (Int×Int×Int)) (kd:Int×Int×Int×Int→Int) (CP:Hid (∀V:World,Bl w V→Calls Tryz.prog 28 #[.agg #[.int .i64 W,.int .i64 H,.slice a m ca,.slice cb n ccap]] V fun e w'=>∃M ad cc ra rk gm cm pa pc,Cons kd L M∧e=.returned (.tuple #[.agg #[.slice ad nn cc,.map (some ra),.map (some rk),.slice (some ⟨gm,0,none⟩) nn cm,.slice pa nn pc],.int .i64 0])∧PileAt w' ad cc ra rk gm cm pa pc L kd M∧Bl V w'))
  (hm:m=zs.length) (hnn:nn=L.length) (hhn:hn=hs.length) (hz:Row w a zs) (hk:Row w cb ks) (hh:Row w ah hs) (hkn:ks.length=n*5) (h1:zs.length≤17592186044416) (h2:n≤3518437208883) (ha:a=none∨∃p off,a=some ⟨p,off,none⟩) (hb:cb=none∨∃p off,cb=some ⟨p,off,none⟩) (hs0:Steps w) (hJ:Joined L) (hnd:L.Nodup) (hL:L.length≤300) (hbd:∀t∈L,(0≤t.1∧t.1≤8)∧(0≤t.2.1∧t.2.1≤8)∧(0≤t.2.2∧t.2.2≤3)) :
  Calls Tryz.prog 7 #[.agg #[.int .i64 W,.int .i64 H,.slice a m ca,.slice cb n ccap],.slice ah hn hc] w fun e w'=>LaidTo w w' W H n nn zs ks hs L kd e:=by
 have HX:Hid (m=zs.length∧nn=L.length∧hn=hs.length∧Row w a zs∧Row w cb ks∧Row w ah hs∧ks.length=n*5):=⟨hm,hnn,hhn,hz,hk,hh,hkn⟩
 have HY:Hid (zs.length≤17592186044416∧n≤3518437208883∧(a=none∨∃p off,a=some ⟨p,off,none⟩)∧(cb=none∨∃p off,cb=some ⟨p,off,none⟩)):=⟨h1,h2,ha,hb⟩
 have HL:Hid (Steps w∧Joined L∧L.Nodup∧L.length≤300∧∀t∈L,(0≤t.1∧t.1≤8)∧(0≤t.2.1∧t.2.1≤8)∧(0≤t.2.2∧t.2.2≤3)):=⟨hs0,hJ,hnd,hL,hbd⟩
 clear hm hnn hhn hz hk hh hkn h1 h2 ha hb hs0 hJ hnd hL hbd
 go_enter Tryz.func7,Tryz.ntmps7
 go_upto_region 1 with fail
 refine Qr (fun W0 hW0=>?_)
 have hw0:Bl w W0:=by rw [hW0];exact Qb (Qb (Qb (Qc _)))
 have x00:W0.cell? ⟨w.heap.size,0,none⟩=some (.int .i64 W):=by rw [hW0];simp [go_sem]
 have x01:W0.cell? ⟨w.heap.size,1,none⟩=some (.int .i64 H):=by rw [hW0];simp [go_sem]
 have x02:W0.cell? ⟨w.heap.size,2,none⟩=some (.slice a m ca):=by rw [hW0];simp [go_sem]
 have x03:W0.cell? ⟨w.heap.size,3,none⟩=some (.slice cb n ccap):=by rw [hW0];simp [go_sem]
 have x04:W0.cell? ⟨w.heap.size+1,0,none⟩=some (.slice ah hn hc):=by rw [hW0];simp [go_sem]
 have y00:W0.cell? ⟨w.heap.size+2,0,none⟩=some (.int .i64 0):=by rw [hW0];simp [go_sem]
 have f00:W0.frozen? ⟨w.heap.size+2,0,none⟩=false:=by rw [hW0];simp [go_sem]
 have y01:W0.cell? ⟨w.heap.size+2,1,none⟩=some (.int .i64 0):=by rw [hW0];simp [go_sem]
 have f01:W0.frozen? ⟨w.heap.size+2,1,none⟩=false:=by rw [hW0];simp [go_sem]
 have y02:W0.cell? ⟨w.heap.size+2,2,none⟩=some (.slice none 0 0):=by rw [hW0];simp [go_sem]
 have f02:W0.frozen? ⟨w.heap.size+2,2,none⟩=false:=by rw [hW0];simp [go_sem]
 have y03:W0.cell? ⟨w.heap.size+2,3,none⟩=some (.slice none 0 0):=by rw [hW0];simp [go_sem]
 have f03:W0.frozen? ⟨w.heap.size+2,3,none⟩=false:=by rw [hW0];simp [go_sem]
 have y04:W0.cell? ⟨w.heap.size+2,4,none⟩=some (.slice none 0 0):=by rw [hW0];simp [go_sem]
 have f04:W0.frozen? ⟨w.heap.size+2,4,none⟩=false:=by rw [hW0];simp [go_sem]
 have y05:W0.cell? ⟨w.heap.size+2,5,none⟩=some (.slice none 0 0):=by rw [hW0];simp [go_sem]
 have f05:W0.frozen? ⟨w.heap.size+2,5,none⟩=false:=by rw [hW0];simp [go_sem]
 have z0:w.heap.size+2<W0.heap.size:=bk y00
 clear hW0
 go_upto_region 2 with (go_at_call 28;refine (CP.out _ hw0).mono ?_;rintro e w1 ⟨M,ad,cc,ra,rk,gm,cm,pa,pc,hC,rfl,hPA,hb1⟩)
 have x10:=Qa hb1 x00
 have x11:=Qa hb1 x01
 have x12:=Qa hb1 x02
 have x13:=Qa hb1 x03
 have x14:=Qa hb1 x04
 have y10:=Qa hb1 y00
 have f10:=(hb1.frozen (p:=⟨w.heap.size+2,0,none⟩) z0).trans f00
 have y11:=Qa hb1 y01
 have f11:=(hb1.frozen (p:=⟨w.heap.size+2,1,none⟩) z0).trans f01
 have y12:=Qa hb1 y02
 have f12:=(hb1.frozen (p:=⟨w.heap.size+2,2,none⟩) z0).trans f02
 have y13:=Qa hb1 y03
 have f13:=(hb1.frozen (p:=⟨w.heap.size+2,3,none⟩) z0).trans f03
 have y14:=Qa hb1 y04
 have f14:=(hb1.frozen (p:=⟨w.heap.size+2,4,none⟩) z0).trans f04
 have y15:=Qa hb1 y05
 have f15:=(hb1.frozen (p:=⟨w.heap.size+2,5,none⟩) z0).trans f05
 have z1:=Nat.lt_of_lt_of_le z0 hb1.size
 clear x00 x01 x02 x03 x04 y00 f00 y01 f01 y02 f02 y03 f03 y04 f04 y05 f05
 have HB1:Hid (Bl w w1):=Qe hw0 hb1
 have HP:Hid (Cons kd L M∧PileAt w1 ad cc ra rk gm cm pa pc L kd M):=⟨hC,hPA⟩
 clear hb1 hw0 hC hPA CP
 refine Qr (fun W2 hW2=>?_)
 have hb2:Bl w1 W2:=by
  rw [hW2]
  with_reducible repeat' (first|exact Qc _|refine Ql ?_ ?_|refine Qb ?_)
  all_goals (dsimp only;omega)
 have p20:W2.cell? ⟨w1.heap.size,0,none⟩=some (.slice ad nn cc):=by rw [hW2];simp [go_sem]
 have p21:W2.cell? ⟨w1.heap.size,1,none⟩=some (.map (some ra)):=by rw [hW2];simp [go_sem]
 have p22:W2.cell? ⟨w1.heap.size,2,none⟩=some (.map (some rk)):=by rw [hW2];simp [go_sem]
 have p23:W2.cell? ⟨w1.heap.size,3,none⟩=some (.slice (some ⟨gm,0,none⟩) nn cm):=by rw [hW2];simp [go_sem]
 have p24:W2.cell? ⟨w1.heap.size,4,none⟩=some (.slice pa nn pc):=by rw [hW2];simp [go_sem]
 have zp:w1.heap.size<W2.heap.size:=bk p20
 clear hW2
 have x20:=Qa hb2 x10
 have x21:=Qa hb2 x11
 have x22:=Qa hb2 x12
 have x23:=Qa hb2 x13
 have x24:=Qa hb2 x14
 have y20:=Qa hb2 y10
 have f20:=(hb2.frozen (p:=⟨w.heap.size+2,0,none⟩) z1).trans f10
 have y21:=Qa hb2 y11
 have f21:=(hb2.frozen (p:=⟨w.heap.size+2,1,none⟩) z1).trans f11
 have y22:=Qa hb2 y12
 have f22:=(hb2.frozen (p:=⟨w.heap.size+2,2,none⟩) z1).trans f12
 have y23:=Qa hb2 y13
 have f23:=(hb2.frozen (p:=⟨w.heap.size+2,3,none⟩) z1).trans f13
 have y24:=Qa hb2 y14
 have f24:=(hb2.frozen (p:=⟨w.heap.size+2,4,none⟩) z1).trans f14
 have y25:=Qa hb2 y15
 have f25:=(hb2.frozen (p:=⟨w.heap.size+2,5,none⟩) z1).trans f15
 have z2:=Nat.lt_of_lt_of_le z1 hb2.size
 clear x10 x11 x12 x13 x14 y10 f10 y11 f11 y12 f12 y13 f13 y14 f14 y15 f15
 have HB2:Hid (Bl w1 W2):=hb2
 clear hb2
 have CF:Hid (Calls Tryz.prog 29 #[.agg #[.slice ad nn cc,.map (some ra),.map (some rk)]] W2 fun e w'=>∃g part,e=.returned (.slice (some ⟨g,0,none⟩) nn nn)∧ZRow w' g nn part∧PartsOk (fun e=>decide (kd e=0)) L part∧W2.heap.size≤g∧Bl W2 w'):=by
  have:=pfaces_any W2 cc ra rk ad L kd (HL.out.1.kept (Qe HB1.out HB2.out)) (HP.out.2.tr.kept HB2.out) (HP.out.2.kl.kept HB2.out) HL.out.2.2.2.1 HL.out.2.2.1 HL.out.2.2.2.2
  rw [←HX.out.2.1] at this
  exact this
 go_upto_region 5 with (go_at_call 29;refine CF.out.mono ?_;rintro e w3 ⟨g,part,rfl,hZ,hPO,hg,hb3⟩)
 have zf:W2.heap.size≤w3.heap.size:=hb3.size
 have x30:=Qa hb3 x20
 have x31:=Qa hb3 x21
 have x32:=Qa hb3 x22
 have x33:=Qa hb3 x23
 have x34:=Qa hb3 x24
 have y30:=Qa hb3 y20
 have f30:=(hb3.frozen (p:=⟨w.heap.size+2,0,none⟩) z2).trans f20
 have y31:=Qa hb3 y21
 have f31:=(hb3.frozen (p:=⟨w.heap.size+2,1,none⟩) z2).trans f21
 have y32:=Qa hb3 y22
 have f32:=(hb3.frozen (p:=⟨w.heap.size+2,2,none⟩) z2).trans f22
 have y33:=Qa hb3 y23
 have f33:=(hb3.frozen (p:=⟨w.heap.size+2,3,none⟩) z2).trans f23
 have y34:=Qa hb3 y24
 have f34:=(hb3.frozen (p:=⟨w.heap.size+2,4,none⟩) z2).trans f24
 have y35:=Qa hb3 y25
 have f35:=(hb3.frozen (p:=⟨w.heap.size+2,5,none⟩) z2).trans f25
 have z3:=Nat.lt_of_lt_of_le z2 hb3.size
 clear x20 x21 x22 x23 x24 y20 f20 y21 f21 y22 f22 y23 f23 y24 f24 y25 f25
 have p30:=Qa hb3 p20
 have p31:=Qa hb3 p21
 have p32:=Qa hb3 p22
 have p33:=Qa hb3 p23
 have p34:=Qa hb3 p24
 clear p20 p21 p22 p23 p24
 have HF:Hid (ZRow w3 g nn part∧PartsOk (fun e=>decide (kd e=0)) L part∧Bl w w3∧Bl w1 w3):=⟨hZ,hPO,Qe (Qe HB1.out HB2.out) hb3,Qe HB2.out hb3⟩
 clear hZ hPO hb3 CF hg HB2
 refine Qr (fun W4 hW4=>?_)
 have hb4:Bl w3 W4:=by
  rw [hW4]
  with_reducible repeat' (first|exact Qc _|refine Ql ?_ ?_|refine Qb ?_)
  all_goals (dsimp only;omega)
 have q40:W4.cell? ⟨w3.heap.size,0,none⟩=some (.slice (some ⟨g,0,none⟩) nn nn):=by rw [hW4];simp [go_sem]
 have zq:w3.heap.size<W4.heap.size:=bk q40
 clear hW4
 have x40:=Qa hb4 x30
 have x41:=Qa hb4 x31
 have x42:=Qa hb4 x32
 have x43:=Qa hb4 x33
 have x44:=Qa hb4 x34
 have y40:=Qa hb4 y30
 have f40:=(hb4.frozen (p:=⟨w.heap.size+2,0,none⟩) z3).trans f30
 have y41:=Qa hb4 y31
 have f41:=(hb4.frozen (p:=⟨w.heap.size+2,1,none⟩) z3).trans f31
 have y42:=Qa hb4 y32
 have f42:=(hb4.frozen (p:=⟨w.heap.size+2,2,none⟩) z3).trans f32
 have y43:=Qa hb4 y33
 have f43:=(hb4.frozen (p:=⟨w.heap.size+2,3,none⟩) z3).trans f33
 have y44:=Qa hb4 y34
 have f44:=(hb4.frozen (p:=⟨w.heap.size+2,4,none⟩) z3).trans f34
 have y45:=Qa hb4 y35
 have f45:=(hb4.frozen (p:=⟨w.heap.size+2,5,none⟩) z3).trans f35
 have z4:=Nat.lt_of_lt_of_le z3 hb4.size
 clear x30 x31 x32 x33 x34 y30 f30 y31 f31 y32 f32 y33 f33 y34 f34 y35 f35
 have p40:=Qa hb4 p30
 have p41:=Qa hb4 p31
 have p42:=Qa hb4 p32
 have p43:=Qa hb4 p33
 have p44:=Qa hb4 p34
 clear p30 p31 p32 p33 p34
 have HB4:Hid (Bl w3 W4):=hb4
 clear hb4
 have h0:0<nn:=by rw [HX.out.2.1];exact HL.out.2.1.1
 obtain ⟨mx,hmx⟩:∃mx,mx=topP part nn:=⟨_,rfl⟩
 have HMX:Hid (mx=topP part nn):=hmx
 have CM:Hid (∀V:World,Bl W4 V→Calls Tryz.prog 30 #[.slice (some ⟨g,0,none⟩) nn nn] V fun e w'=>e=.returned (.int .i64 mx)∧Bl V w'):=fun V hV=>by
  have hn3:nn≤300:=by rw [HX.out.2.1];exact HL.out.2.2.2.1
  have:=Tryz.slices_Max_int g 0 nn nn ((List.range nn).map part) V h0 (by simp) (by omega) (fun j hj=>by
     have hj':j<nn:=by simpa using hj
     rw [Nat.zero_add,Qa (Qe HB4.out hV) (HF.out.1 j hj').1]
     simp [hj'])
  refine this.mono ?_
  rintro e w' ⟨rfl,rfl⟩
  rw [List.take_of_length_le (by simp)]
  exact ⟨by rw [hmx];rfl,Qc _⟩
 have hmb:0≤mx∧mx≤299:=by
  have:=topP_bd HF.out.2.1 (by rw [←HX.out.2.1];exact h0) HL.out.2.2.2.1
  rw [hmx,HX.out.2.1]
  exact this
 clear hmx
 obtain ⟨hm0,hm3⟩:=hmb
 have zA:w.heap.size+1<W4.heap.size:=by omega
 have kc:=Kin.cells W4
 have kn:Nonempty (Kin W4):=⟨⟨W4,Qc _⟩⟩
 refine Qg (by kernel_rfl) (by kernel_rfl) ?_
 repeat (go_big_quiet_step ((go_at_call 30;exact Qo (CM.out _ (Kin.h _)))))
 refine wpQuiet_nil ?_
 intro wq hw'
 obtain ⟨nq,hw''⟩:=hw'
 have hb5:Bl W4 wq:=hw'' ▸ nq.h
 clear hw'' nq kc kn CM
 have q50:=Qa hb5 q40
 clear q40
 have x50:=Qa hb5 x40
 have x51:=Qa hb5 x41
 have x52:=Qa hb5 x42
 have x53:=Qa hb5 x43
 have x54:=Qa hb5 x44
 have y50:=Qa hb5 y40
 have f50:=(hb5.frozen (p:=⟨w.heap.size+2,0,none⟩) z4).trans f40
 have y51:=Qa hb5 y41
 have f51:=(hb5.frozen (p:=⟨w.heap.size+2,1,none⟩) z4).trans f41
 have y52:=Qa hb5 y42
 have f52:=(hb5.frozen (p:=⟨w.heap.size+2,2,none⟩) z4).trans f42
 have y53:=Qa hb5 y43
 have f53:=(hb5.frozen (p:=⟨w.heap.size+2,3,none⟩) z4).trans f43
 have y54:=Qa hb5 y44
 have f54:=(hb5.frozen (p:=⟨w.heap.size+2,4,none⟩) z4).trans f44
 have y55:=Qa hb5 y45
 have f55:=(hb5.frozen (p:=⟨w.heap.size+2,5,none⟩) z4).trans f45
 have z5:=Nat.lt_of_lt_of_le z4 hb5.size
 clear x40 x41 x42 x43 x44 y40 f40 y41 f41 y42 f42 y43 f43 y44 f44 y45 f45
 have p50:=Qa hb5 p40
 have p51:=Qa hb5 p41
 have p52:=Qa hb5 p42
 have p53:=Qa hb5 p43
 have p54:=Qa hb5 p44
 clear p40 p41 p42 p43 p44
 have HB5:Hid (Bl w wq∧Bl w1 wq∧Bl w3 wq):=⟨Qe HF.out.2.2.1 (Qe HB4.out hb5),Qe HF.out.2.2.2 (Qe HB4.out hb5),Qe HB4.out hb5⟩
 clear hb5
 by_cases hlen:(hn:Int)=mx+1
 ·have HN:Hid ((hn:Int)=mx+1):=hlen
  have hh0:0<hs.length∧hs.length≤300:=by
   have:=HX.out.2.2.1
   omega
  obtain ⟨gh,oh,hah⟩:=row_some HX.out.2.2.2.2.2.1 hh0.1
  subst hah
  have HH:Hid (0<hs.length∧hs.length≤300):=hh0
  clear hh0
  have CT:Hid (Calls Tryz.prog 31 #[.slice (some ⟨gh,oh,none⟩) hn hc] wq fun e w'=>e=.returned (.bool (decide (¬hs.Nodup)))∧Bl wq w'):=by
   have:=twice_any wq (some ⟨gh,oh,none⟩) hc hs HH.out.1 HH.out.2 (HX.out.2.2.2.2.2.1.kept HB5.out.1)
   rw [←HX.out.2.2.1] at this
   exact this
  by_cases hnd:hs.Nodup
  ·have e0:decide (¬hs.Nodup)=false:=by simp [hnd]
   rw [e0] at CT
   have HD:Hid (hs.Nodup):=hnd
   clear e0 hnd
   go_upto_region 9 with (go_at_call 31;refine CT.out.mono ?_;rintro e w6 ⟨rfl,hb6⟩)
   have q60:=Qa hb6 q50
   have x60:=Qa hb6 x50
   have x61:=Qa hb6 x51
   have x62:=Qa hb6 x52
   have x63:=Qa hb6 x53
   have x64:=Qa hb6 x54
   have y60:=Qa hb6 y50
   have f60:=(hb6.frozen (p:=⟨w.heap.size+2,0,none⟩) z5).trans f50
   have y61:=Qa hb6 y51
   have f61:=(hb6.frozen (p:=⟨w.heap.size+2,1,none⟩) z5).trans f51
   have y62:=Qa hb6 y52
   have f62:=(hb6.frozen (p:=⟨w.heap.size+2,2,none⟩) z5).trans f52
   have y63:=Qa hb6 y53
   have f63:=(hb6.frozen (p:=⟨w.heap.size+2,3,none⟩) z5).trans f53
   have y64:=Qa hb6 y54
   have f64:=(hb6.frozen (p:=⟨w.heap.size+2,4,none⟩) z5).trans f54
   have y65:=Qa hb6 y55
   have f65:=(hb6.frozen (p:=⟨w.heap.size+2,5,none⟩) z5).trans f55
   have z6:=Nat.lt_of_lt_of_le z5 hb6.size
   clear x50 x51 x52 x53 x54 y50 f50 y51 f51 y52 f52 y53 f53 y54 f54 y55 f55
   have p60:=Qa hb6 p50
   have p61:=Qa hb6 p51
   have p62:=Qa hb6 p52
   have p63:=Qa hb6 p53
   have p64:=Qa hb6 p54
   clear p50 p51 p52 p53 p54
   have HB6:Hid (Bl w w6∧Bl w1 w6∧Bl w3 w6):=⟨Qe HB5.out.1 hb6,Qe HB5.out.2.1 hb6,Qe HB5.out.2.2 hb6⟩
   have HQ6:Hid (w6.cell? ⟨w3.heap.size,0,none⟩=some (.slice (some ⟨g,0,none⟩) nn nn)∧w6.cell? ⟨w.heap.size+1,0,none⟩=some (.slice (some ⟨gh,oh,none⟩) hn hc)):=⟨q60,x64⟩
   clear hb6 CT q50 q60 x64
   have CS:Hid (Calls Tryz.prog 33 #[.agg #[.slice ad nn cc,.map (some ra),.map (some rk),.slice (some ⟨gm,0,none⟩) nn cm,.slice pa nn pc],.agg #[.int .i64 W,.int .i64 H,.slice a m ca,.slice cb n ccap],.func (.func 32) #[] #[.pointer (some ⟨w.heap.size+1,0,none⟩),.pointer (some ⟨w3.heap.size,0,none⟩)]] w6 fun e w'=>StateTo w6 w' W H n nn zs ks M L (plcA (pls L M nn)) (hgt hs (lbs part nn)) e):=by
    have hPT:=HP.out.2.kept HB6.out.2.1
    have hlt:∀i,i<L.length→part i<hs.length:=fun i hi=>by
     have e1:=topP_le (part:=part) hi
     have e2:=HN.out
     rw [HMX.out,HX.out.2.1,HX.out.2.2.1] at e2
     omega
    have hfs:∀j∈lbs part L.length,j<hs.length:=fun j hj=>by
     obtain ⟨i,hi,rfl⟩:=List.mem_map.1 hj
     have e1:=hlt i (by simpa using hi)
     have e2:=HF.out.2.1.1 i (by simpa using hi)
     omega
    have:=state_any w6 W H a cb ca ccap n zs ks ad pa cc ra rk gm cm pc M L (pls L M L.length) (.func (.func 32) #[] #[.pointer (some ⟨w.heap.size+1,0,none⟩),.pointer (some ⟨w3.heap.size,0,none⟩)]) (hgt hs (lbs part L.length)) (HX.out.2.2.2.1.kept HB6.out.1) (HX.out.2.2.2.2.1.kept HB6.out.1) HX.out.2.2.2.2.2.2 HY.out.1 HY.out.2.1 HY.out.2.2.1 HY.out.2.2.2 (Xs _ _ _) hPT.tr.1 hPT.pl hPT.mr HL.out.2.1.1 HL.out.2.2.2.1
     (fun V hV=>sortsN_of V L.length _ (hgt hs (lbs part L.length)) (fun W' hW' x y hx hy=>orderCompare_any W' (w.heap.size+1) w3.heap.size gh oh hc g 0 nn x y hs (lbs part L.length) ⟨by rw [←HX.out.2.2.1];exact Qa (Qe hV hW') HQ6.out.2,by rw [lbs_len,←HX.out.2.1];exact Qa (Qe hV hW') HQ6.out.1,HX.out.2.2.2.2.2.1.kept (Qe HB6.out.1 (Qe hV hW')),(zrow_nrow (by rw [←HX.out.2.1];exact HF.out.1) HF.out.2.1.1).kept (Qe HB6.out.2.2 (Qe hV hW'))⟩ (by rw [lbs_len];exact hx) (by rw [lbs_len];exact hy) hfs (by rw [lbs_len];exact HL.out.2.2.2.1) HH.out.2))
     (faces_dis HP.out.1 HL.out.2.1 HL.out.2.2.1 HL.out.2.2.2.1 HL.out.2.2.2.2 HF.out.2.1 hlt HD.out)
    rw [←HX.out.1,←HX.out.2.1] at this
    exact this
   go_wp2_with (go_at_call 33;refine CS.out.mono ?_;rintro e w7 ⟨a1,k1,a2,k2,g1,c1,t1,u1,Hp,rfl,hA1,hA2,hM1,hg1,hHp,hSR,hb7⟩;have HS7:Hid (RowF w7 w6.heap.size a1 zs∧RowF w7 w6.heap.size a2 ks∧MRow w7 g1 nn M∧w6.heap.size≤g1∧Heap nn (plcA (pls L M nn)) (hgt hs (lbs part nn)) Hp∧SRowF w7 w6.heap.size t1 (Hp.map fun s=>(s.1,tgn L s.2))∧Bl w6 w7):=⟨hA1,hA2,hM1,hg1,hHp,hSR,hb7⟩;have y70:=Qa hb7 y60;have f70:=(hb7.frozen (p:=⟨w.heap.size+2,0,none⟩) z6).trans f60;have y71:=Qa hb7 y61;have f71:=(hb7.frozen (p:=⟨w.heap.size+2,1,none⟩) z6).trans f61;have y72:=Qa hb7 y62;have f72:=(hb7.frozen (p:=⟨w.heap.size+2,2,none⟩) z6).trans f62;have y73:=Qa hb7 y63;have f73:=(hb7.frozen (p:=⟨w.heap.size+2,3,none⟩) z6).trans f63;have y74:=Qa hb7 y64;have f74:=(hb7.frozen (p:=⟨w.heap.size+2,4,none⟩) z6).trans f64;have y75:=Qa hb7 y65;have f75:=(hb7.frozen (p:=⟨w.heap.size+2,5,none⟩) z6).trans f65;have z7:=Nat.lt_of_lt_of_le z6 hb7.size;clear  y60 f60 y61 f61 y62 f62 y63 f63 y64 f64 y65 f65;clear hA1 hA2 hM1 hg1 hHp hSR hb7)
   refine bodyPost_ret (v:=.tuple #[.agg #[.int .i64 W,.int .i64 H,.slice a1 zs.length k1,.slice a2 n k2,.slice (some ⟨g1,0,none⟩) nn c1,.slice t1 Hp.length u1],.int .i64 0]) (by simp [results,Tryz.results7,go_sem, *]) rfl ⟨M,part,HP.out.1,HF.out.2.1,?_,Or.inr (Or.inr ⟨?_,HD.out,_,rfl,a1,k1,a2,k2,g1,c1,t1,u1,Hp,rfl,?_,?_,?_,?_,HS7.out.2.2.2.2.1,?_,?_⟩)⟩
   ·with_reducible repeat' (first|exact Qe HB6.out.1 HS7.out.2.2.2.2.2.2|refine Ql ?_ ?_|refine Qf ?_|refine Qb ?_)
    all_goals (dsimp only;omega)
   ·rw [←HMX.out,←HX.out.2.2.1]
    exact HN.out
   ·refine RowF.low (base:=w6.heap.size) ?_ (by omega)
    with_reducible repeat (refine RowF.set ?_ (by dsimp only;omega))
    exact HS7.out.1
   ·refine RowF.low (base:=w6.heap.size) ?_ (by omega)
    with_reducible repeat (refine RowF.set ?_ (by dsimp only;omega))
    exact HS7.out.2.1
   ·have hg1:=HS7.out.2.2.2.1
    with_reducible repeat (refine MRow.set ?_ (by omega))
    exact HS7.out.2.2.1
   ·have hg1:=HS7.out.2.2.2.1
    omega
   ·refine SRowF.low (base:=w6.heap.size) ?_ (by omega)
    with_reducible repeat (refine SRowF.set ?_ (by dsimp only;omega))
    exact HS7.out.2.2.2.2.2.1
   ·with_reducible repeat' (first|exact Qe HB6.out.1 HS7.out.2.2.2.2.2.2|refine Ql ?_ ?_|refine Qf ?_|refine Qb ?_)
    all_goals (dsimp only;omega)
  ·have e0:decide (¬hs.Nodup)=true:=by simp [hnd]
   rw [e0] at CT
   have HD:Hid (¬hs.Nodup):=hnd
   clear e0 hnd
   go_upto_region 8 with (go_at_call 31;refine CT.out.mono ?_;rintro e w6 ⟨rfl,hb6⟩)
   have x60:=Qa hb6 x50
   have x61:=Qa hb6 x51
   have x62:=Qa hb6 x52
   have x63:=Qa hb6 x53
   have x64:=Qa hb6 x54
   have y60:=Qa hb6 y50
   have f60:=(hb6.frozen (p:=⟨w.heap.size+2,0,none⟩) z5).trans f50
   have y61:=Qa hb6 y51
   have f61:=(hb6.frozen (p:=⟨w.heap.size+2,1,none⟩) z5).trans f51
   have y62:=Qa hb6 y52
   have f62:=(hb6.frozen (p:=⟨w.heap.size+2,2,none⟩) z5).trans f52
   have y63:=Qa hb6 y53
   have f63:=(hb6.frozen (p:=⟨w.heap.size+2,3,none⟩) z5).trans f53
   have y64:=Qa hb6 y54
   have f64:=(hb6.frozen (p:=⟨w.heap.size+2,4,none⟩) z5).trans f54
   have y65:=Qa hb6 y55
   have f65:=(hb6.frozen (p:=⟨w.heap.size+2,5,none⟩) z5).trans f55
   have z6:=Nat.lt_of_lt_of_le z5 hb6.size
   clear x50 x51 x52 x53 x54 y50 f50 y51 f51 y52 f52 y53 f53 y54 f54 y55 f55
   have HB6:Hid (Bl w w6):=Qe HB5.out.1 hb6
   clear p50 p51 p52 p53 p54 x60 x61 x62 x63 x64 q50 hb6 CT
   go_wp2
   refine bodyPost_ret (v:=.tuple #[.agg #[.int .i64 0,.int .i64 0,.slice none 0 0,.slice none 0 0,.slice none 0 0,.slice none 0 0],.int .i64 6]) (by simp [results,Tryz.results7,go_sem, *]) rfl ⟨M,part,HP.out.1,HF.out.2.1,?_,Or.inr (Or.inl ⟨?_,HD.out,rfl⟩)⟩
   ·with_reducible repeat' (first|exact HB6.out|refine Ql ?_ ?_|refine Qf ?_|refine Qb ?_)
    all_goals (dsimp only;omega)
   ·rw [←HMX.out,←HX.out.2.2.1]
    exact HN.out
 ·have HN:Hid (¬(hn:Int)=mx+1):=hlen
  clear p50 p51 p52 p53 p54 x50 x51 x52 x53 x54 q50
  go_wp2
  refine bodyPost_ret (v:=.tuple #[.agg #[.int .i64 0,.int .i64 0,.slice none 0 0,.slice none 0 0,.slice none 0 0,.slice none 0 0],.int .i64 2]) (by simp [results,Tryz.results7,go_sem, *]) rfl ⟨M,part,HP.out.1,HF.out.2.1,?_,Or.inl ⟨?_,rfl⟩⟩
  ·with_reducible repeat' (first|exact HB5.out.1|refine Ql ?_ ?_|refine Qf ?_|refine Qb ?_)
   all_goals (dsimp only;omega)
  ·rw [←HMX.out,←HX.out.2.2.1]
   exact HN.out
theorem lay_any (W H b off cap n ccap hc:Nat) (cb ah:Option Addr) (zs ks hs:List Int) (w:World) (hr:Row w (some ⟨b,off,none⟩) zs) (hW:1≤W∧W≤8) (hH:1≤H∧H≤8) (hl:zs.length=W*H) (hm:maskB zs=true) (hk:Row w cb ks) (hn:ks.length=n*5) (hn2:n≤3518437208883) (hcb:cb=none∨∃p off,cb=some ⟨p,off,none⟩) (hs0:Steps w) (hJ:Joined (ty zs W H)) (hC:∀i,i<n→CrOk (ty zs W H) ks i) (hh:Row w ah hs) :
  Calls Tryz.prog 7 #[.agg #[.int .i64 (W:Int),.int .i64 (H:Int),.slice (some ⟨b,off,none⟩) zs.length cap,.slice cb n ccap],.slice ah hs.length hc] w fun e w'=>LaidTo w w' W H n (ty zs W H).length zs ks hs (ty zs W H) (kdn ks n) e∨((¬∃N,Cons (kdn ks n) (ty zs W H) N)∧e=.returned (.tuple #[.agg #[.int .i64 0,.int .i64 0,.slice none 0 0,.slice none 0 0,.slice none 0 0,.slice none 0 0],.int .i64 8])∧Bl w w'):=by
 have hP:∀V:World,Bl w V→Calls Tryz.prog 28 #[.agg #[.int .i64 (W:Int),.int .i64 (H:Int),.slice (some ⟨b,off,none⟩) zs.length cap,.slice cb n ccap]] V fun e w'=>PlacedTo (kdn ks n) (ty zs W H) V w' e:=fun V hV=>placed_yes W H b off cap n ccap cb zs ks V (hr.kept hV) hW hH hl hm (hk.kept hV) hn hn2 (hs0.kept hV) hJ hC
 have hlen:(ty zs W H).length≤300:=by have:=Jn zs W H hW.2;omega
 have hz1:zs.length≤17592186044416:=by rw [hl];exact Nat.le_trans (Nat.mul_le_mul hW.2 hH.2) (by decide)
 by_cases hN:∃N,Cons (kdn ks n) (ty zs W H) N
 ·refine (lay_flat w W H (some ⟨b,off,none⟩) cb ah zs.length cap n ccap hs.length hc (ty zs W H).length zs ks hs (ty zs W H) (kdn ks n) (fun V hV=>(hP V hV).mono ?_) rfl rfl rfl hr hk hh hn hz1 hn2 (Or.inr ⟨b,off,rfl⟩) hcb hs0 hJ (Jl zs W H) hlen (ty_bd (zs:=zs) hW.2 hH.2)).mono fun e w' h=>Or.inl h
  rintro e w' ⟨hb,⟨M,ad,cc,ra,rk,gm,cm,pa,pc,hc,he,hp⟩|⟨h1,_⟩⟩
  ·exact ⟨M,ad,cc,ra,rk,gm,cm,pa,pc,hc,he,hp,hb⟩
  ·exact absurd hN h1
 ·refine (lay_tear w W H (some ⟨b,off,none⟩) cb ah zs.length cap n ccap hs.length hc (fun V hV=>(hP V hV).mono ?_)).mono fun e w' h=>Or.inr ⟨hN,h⟩
  rintro e w' ⟨hb,⟨M,ad,cc,ra,rk,gm,cm,pa,pc,hc,he,hp⟩|⟨_,h1⟩⟩
  ·exact absurd ⟨M,hc⟩ hN
  ·exact ⟨h1,hb⟩
end Go.Proofs.YtgpjaecgkkgehaaGreatDoor
namespace Go.Proofs.YtgpjaecgkkgehaaGreatDoor
open Go.RowKit Go.ChangeMaps
theorem calls_some {P:Program} {f:FuncId} {args:Array Value} {w:World} {R:Ending→World→Prop} (h:Calls P f args w R):∃e w',R e w':=by
 obtain ⟨e,w',fr,hR,_⟩:=h []
 exact ⟨e,w',hR⟩
theorem parts_reach {cr:Int×Int×Int×Int→Bool} {L:List (Int×Int×Int)} {p q:Nat→Int} (hnd:L.Nodup) (hp:PartsOk cr L p) (hq:PartsOk cr L q) {a b:Nat} (ha:a<L.length) (hb:b<L.length) (e:p a=p b):q a=q b :=
 Xr (f:=q) hnd (fun a b ha hb h=>(hq.2.1 a b ha hb h).symm) ha hb (hp.2.2.1 a b ha hb e)
theorem parts_one {cr:Int×Int×Int×Int→Bool} {L:List (Int×Int×Int)} {p q:Nat→Int} (hnd:L.Nodup) (hp:PartsOk cr L p) (hq:PartsOk cr L q):∀a,a<L.length→p a=q a:=by
 intro a
 induction a using Nat.strongRecOn with
 | _ a ih =>
  intro ha
  rcases Int.lt_trichotomy (p a) (q a) with h|h|h
  ·obtain ⟨b,hb,e⟩:=hq.2.2.2 a ha (p a) (hp.1 a ha) h
   have e2:=ih b hb (by omega)
   have e3:=parts_reach hnd hp hq ha (by omega:b<L.length) (by omega)
   omega
  ·exact h
  ·obtain ⟨b,hb,e⟩:=hp.2.2.2 a ha (q a) (hq.1 a ha) h
   have e2:=ih b hb (by omega)
   have e3:=parts_reach hnd hq hp ha (by omega:b<L.length) (by omega)
   omega
theorem top_len {cr:Int×Int×Int×Int→Bool} {L:List (Int×Int×Int)} {part:Nat→Int} (hP:PartsOk cr L part) (h0:0<L.length):((fcs L part L.length).length:Int)=topP part L.length+1:=by
 have hF:=faces_ok hP
 obtain ⟨i,hi,e⟩:=topP_at (part:=part) h0
 have h1:=(hF.1 i hi).2
 have h2:=(hF.1 i hi).1
 obtain ⟨b,hb,e2⟩:=hF.2.2.2 ((fcs L part L.length).length - 1) (by omega)
 have h3:=topP_le (part:=part) hb
 omega
theorem top_same {L:List (Int×Int×Int)} {p q:Nat→Int} (h:∀a,a<L.length→p a=q a):topP p L.length=topP q L.length:=by
 unfold topP
 congr 1
 exact List.map_congr_left (fun a ha=>h a (by simpa using ha))
theorem mrow_eq {w:World} {g n:Nat} {M M':Nat→M6} (h:MRow w g n M) (e:∀i,i<n→M i=M' i):MRow w g n M':=fun i hi=>by
 rw [←e i hi]
 exact h i hi
theorem hpN_same {pl:Nat→Int×Int×Int} {h h':Nat→Int} {n:Nat} (hd:∀i j,i<n→j<n→pl i=pl j→i≠j→h i≠h j) (e:∀j,j<n→h j=h' j):hpN pl h n=hpN pl h' n :=
 (heap_congr (heap_hpN n hd) (fun _ _=>rfl) e).one (heap_hpN n (fun i j hi hj e1 e2 e3=>hd i j hi hj e1 e2 (by rw [e i hi,e j hj];exact e3)))
theorem plcA_mvP {L:List (Int×Int×Int)} {M:Nat→M6} {n j:Nat} (hj:j<n):plcA (pls L M n) j=mvP L M j:=by
 unfold plcA pls mvP tg
 rw [List.getD_eq_getElem?_getD (l:=List.map _ _)]
 simp [hj]
theorem hgt_at {hs:List Int} {part:Nat→Int} {n j:Nat} (hj:j<n):hgt hs (lbs part n) j=hs.getD (part j).toNat 0:=by
 unfold hgt
 rw [lbs_at hj]
def hOf (hs:List Int) (part:Nat→Int) (j:Nat):Int:=hs.getD (part j).toNat 0
def stS (L:List (Int×Int×Int)) (M:Nat→M6) (h:Nat→Int):List ((Int×Int×Int)×List (Int×Int×Int)):=trS L (hpN (mvP L M) h L.length)
theorem stS_len (L:List (Int×Int×Int)) (M:Nat→M6) (h:Nat→Int):(stS L M h).length≤L.length:=by
 unfold stS trS
 rw [List.length_map]
 exact hpN_len _ _ _
theorem stS_lens (L:List (Int×Int×Int)) (M:Nat→M6) (h:Nat→Int):∀s∈stS L M h,s.2.length≤L.length:=fun s hs=>by
 unfold stS trS at hs
 obtain ⟨x,hx,rfl⟩:=List.mem_map.1 hs
 dsimp only
 rw [List.length_map]
 exact hpN_lens _ _ _ x hx
theorem laid_state {w w':World} {W H:Int} {n:Nat} {zs ks hs:List Int} {L:List (Int×Int×Int)} {M M0:Nat→M6} {part p0:Nat→Int} {v:Value} (hM:∀i,i<L.length→M i=M0 i) (hp:∀i,i<L.length→part i=p0 i) (hd:∀i j,i<L.length→j<L.length→mvP L M0 i=mvP L M0 j→i≠j→hOf hs p0 i≠hOf hs p0 j)
  (h:StateTo w w' W H n L.length zs ks M L (plcA (pls L M L.length)) (hgt hs (lbs part L.length)) (.returned v)):HeapF w w' W H zs.length n L.length zs ks M0 (stS L M0 (hOf hs p0)) (.returned v):=by
 obtain ⟨a,ca,b,cb,g,c,t,u,Hp,he,r1,r2,r3,r4,hH,hS,hb⟩:=h
 have h1:Heap L.length (mvP L M0) (hOf hs p0) Hp:=heap_congr hH (fun j hj=>by
  rw [plcA_mvP hj]
  unfold mvP
  rw [hM j hj]) (fun j hj=>by
  rw [hgt_at hj,hp j hj]
  rfl)
 have h2:=h1.one (heap_hpN L.length hd)
 subst h2
 have e:(hpN (mvP L M0) (hOf hs p0) L.length).map (fun s=>(s.1,tgn L s.2))=stS L M0 (hOf hs p0):=rfl
 have e2:(hpN (mvP L M0) (hOf hs p0) L.length).length=(stS L M0 (hOf hs p0)).length:=by
  unfold stS trS
  rw [List.length_map]
 rw [e] at hS
 rw [e2] at he
 exact ⟨a,ca,b,cb,g,c,t,u,he,r1,r2,⟨mrow_eq r3 hM,r4⟩,hS,hb⟩
theorem stackLays_any (W H:Int) (a c ah:Option Addr) (ca cc n hc:Nat) (zs ks hs:List Int) (w:World) (hz:Row w a zs) (hk:Row w c ks) (hn:ks.length=n*5) (h1:zs.length≤17592186044416) (h2:n≤3518437208883) (hh:Row w ah hs) (h3:hs.length≤17592186044416) (hs0:Steps w) :
  Calls Tryz.prog 3 #[.agg #[.int .i64 W,.int .i64 H,.slice a zs.length ca,.slice c n cc],.slice ah hs.length hc] w fun e w'=>e=.returned (.bool true)∧Bl w w':=by
 have CS:Hid (∀V:World,Bl w V→Calls Tryz.prog 8 #[.agg #[.int .i64 W,.int .i64 H,.slice a zs.length ca,.slice c n cc]] V fun e w'=>∃a' ca' b' cb',e=.returned (.agg #[.int .i64 W,.int .i64 H,.slice a' zs.length ca',.slice b' n cb'])∧Row w' a' zs∧Row w' b' ks∧(b'=none∨∃p o,b'=some ⟨p,o,none⟩)∧Bl V w'):=fun V hV=>(sheetOf_form W H a c ca cc n zs ks V (hz.kept hV) (hk.kept hV) hn h1 h2).mono fun e w' ⟨a',ca',b',cb',he,r1,r2,hb,hf⟩=>⟨a',ca',b',cb',he,r1.row,r2.row,hf,hb⟩
 have CI:Hid (∀V:World,Bl w V→Calls Tryz.prog 9 #[.slice ah hs.length hc] V fun e w'=>∃a' c',e=.returned (.slice a' hs.length c')∧Row w' a' hs∧Bl V w'):=fun V hV=>(ints_any ah hc hs V (hh.kept hV) h3).mono fun e w' ⟨a',c',he,r,hb⟩=>⟨a',c',he,r.row,hb⟩
 rcases sheet_either W H a c ca cc n zs ks w hz hk hn h2 hs0 with ⟨q1,q2⟩|⟨Wn,Hn,b,off,rfl,rfl,rfl,hW,hH,hl,hm,hJ,hC,hMay⟩
 ·refine stackLays_no W H a c ah zs.length ca n cc hs.length hc zs ks hs w CS CI (fun V a' b' a3 ca' cb' c3 hV r1 r2 _ _=>?_) q2
  exact lay_none V W H a' b' a3 zs.length ca' n cb' hs.length c3 (fun V2 hV2=>placed_none V2 W H a' b' zs.length ca' n cb' (fun V3 hV3=>Place_no W H a' b' zs.length n ca' cb' V3 (fun V4 hV4=>q1 V4 a' b' ca' cb' (Qe hV (Qe hV2 (Qe hV3 hV4))) (r1.kept (Qe hV2 (Qe hV3 hV4))) (r2.kept (Qe hV2 (Qe hV3 hV4))))))
 ·have hz0:0<zs.length:=by
   rw [hl]
   exact Nat.mul_pos (by omega) (by omega)
  have LA:∀(V:World) (a' b' a3:Option Addr) (ca' cb' c3:Nat),Bl w V→Row V a' zs→Row V b' ks→(b'=none∨∃p o,b'=some ⟨p,o,none⟩)→Row V a3 hs→Calls Tryz.prog 7 #[.agg #[.int .i64 (Wn:Int),.int .i64 (Hn:Int),.slice a' zs.length ca',.slice b' n cb'],.slice a3 hs.length c3] V fun e w'=>LaidTo V w' Wn Hn n (ty zs Wn Hn).length zs ks hs (ty zs Wn Hn) (kdn ks n) e∨((¬∃N,Cons (kdn ks n) (ty zs Wn Hn) N)∧e=.returned (.tuple #[.agg #[.int .i64 0,.int .i64 0,.slice none 0 0,.slice none 0 0,.slice none 0 0,.slice none 0 0],.int .i64 8])∧Bl V w'):=fun V a' b' a3 ca' cb' c3 hV r1 r2 hf r3=>by
   obtain ⟨ba,oa,rfl,_⟩:=r1 0 hz0
   exact lay_any Wn Hn ba oa ca' n cb' c3 b' a3 zs ks hs V r1 hW hH hl hm r2 hn h2 hf (hs0.kept hV) hJ hC r3
  have LP:∀V:World,Bl w V→Calls Tryz.prog 12 #[.agg #[.int .i64 (Wn:Int),.int .i64 (Hn:Int),.slice (some ⟨b,off,none⟩) zs.length ca,.slice c n cc]] V fun e w'=>Bl V w'∧((∃M g,Cons (kdn ks n) (ty zs Wn Hn) M∧e=.returned (.tuple #[.slice (some ⟨g,0,none⟩) (ty zs Wn Hn).length (ty zs Wn Hn).length,.bool true])∧MRow w' g (ty zs Wn Hn).length M)∨((¬∃N,Cons (kdn ks n) (ty zs Wn Hn) N)∧e=.returned (.tuple #[.slice none 0 0,.bool false]))):=fun V hV=>placeAll_any Wn Hn b off ca n cc c zs ks V (hz.kept hV) hW hH hl hm (Jt (hk.kept hV) hn) (cr_one hC) h2 hJ
  have LF:∀V:World,Bl w V→Calls Tryz.prog 13 #[.agg #[.int .i64 (Wn:Int),.int .i64 (Hn:Int),.slice (some ⟨b,off,none⟩) zs.length ca,.slice c n cc]] V fun e w'=>∃v who,e=.returned v∧(InvC (fun e=>decide (kdn ks n e=0)) (ty zs Wn Hn) who∧∀i e,i<(ty zs Wn Hn).length→e<3→OkC (fun e=>decide (kdn ks n e=0)) (ty zs Wn Hn) who i e)∧Nest w' V.heap.size v (rfs (ty zs Wn Hn) who (ty zs Wn Hn).length)∧Bl V w':=fun V hV=>refFaces_any Wn Hn b off ca n cc c zs ks V (hz.kept hV) hW hH hl hm (Jt (hk.kept hV) hn) (cr_one hC) h2
  have LT:∀V:World,Bl w V→Calls Tryz.prog 38 #[.agg #[.int .i64 (Wn:Int),.int .i64 (Hn:Int),.slice (some ⟨b,off,none⟩) zs.length ca,.slice c n cc]] V fun e w'=>∃a c,e=.returned (.slice a (ty zs Wn Hn).length c)∧TRow w' a (ty zs Wn Hn)∧Bl V w':=fun V hV=>(Jw Wn Hn b off ca zs (.slice c n cc) V (hz.kept hV) hW hH hl hm).mono fun e w' ⟨v,he,ho,hb⟩=>by
   obtain ⟨a9,c9,rfl,hT⟩:=Jk ho
   exact ⟨a9,c9,he,hT,hb⟩
  have LO:∀V:World,Bl w V→Calls Tryz.prog 8 #[.agg #[.int .i64 (Wn:Int),.int .i64 (Hn:Int),.slice (some ⟨b,off,none⟩) zs.length ca,.slice c n cc]] V fun e w'=>∃a' ca' b' cb',e=.returned (.agg #[.int .i64 (Wn:Int),.int .i64 (Hn:Int),.slice a' zs.length ca',.slice b' n cb'])∧RowF w' V.heap.size a' zs∧RowF w' V.heap.size b' ks∧Bl V w':=fun V hV=>sheetOf_any Wn Hn (some ⟨b,off,none⟩) c ca cc n zs ks V (hz.kept hV) (hk.kept hV) hn h1 h2
  have hlen:(ty zs Wn Hn).length≤256:=by have:=Jn zs Wn Hn hW.2;omega
  have hnd:=Jl zs Wn Hn
  have hbd:=ty_bd (zs:=zs) hW.2 hH.2
  have hkd:∀t∈ty zs Wn Hn,Kd t:=fun t ht=>(hbd t ht).2.2
  have h0:0<(ty zs Wn Hn).length:=hJ.1
  by_cases hex:∃N,Cons (kdn ks n) (ty zs Wn Hn) N
  ·obtain ⟨e8,w8,a8,ca8,b8,cb8,_,r18,r28,hf8,hb8⟩:=calls_some (CS.out w (Qc _))
   obtain ⟨e9,w9,hLT⟩:=calls_some (LA w8 a8 b8 ah ca8 cb8 hc hb8 r18 r28 hf8 (hh.kept hb8))
   rcases hLT with ⟨M0,p0,hC0,hP0,_⟩|⟨hno,_⟩
   rotate_left
   ·exact absurd hex hno
   obtain ⟨L,hL⟩:∃L,L=ty zs Wn Hn:=⟨_,rfl⟩
   rw [←hL] at LA LP LF LT hlen hnd hbd hkd h0 hJ hC0 hP0
   have hF:=faces_ok hP0
   have hFt:=top_len hP0 h0
   have hT0:=(topP_bd hP0 h0 (by omega)).1
   have hF1:=fcs_le L p0 L.length
   have hF2:=fcs_row L p0 L.length
   have CP:Hid (∀V:World,Bl w V→Calls Tryz.prog 12 #[.agg #[.int .i64 (Wn:Int),.int .i64 (Hn:Int),.slice (some ⟨b,off,none⟩) zs.length ca,.slice c n cc]] V fun e w'=>∃g,e=.returned (.tuple #[.slice (some ⟨g,0,none⟩) L.length L.length,.bool true])∧MRow w' g L.length M0∧Bl V w'):=fun V hV=>(LP V hV).mono fun e w' ⟨hb,h⟩=>by
    rcases h with ⟨M,g,hc9,he,hm9⟩|⟨hno,_⟩
    ·exact ⟨g,he,mrow_eq hm9 (cons_one hJ hnd hc9 hC0),hb⟩
    ·exact absurd ⟨M0,hC0⟩ hno
   have CFN:∀V:World,Bl w V→Calls Tryz.prog 13 #[.agg #[.int .i64 (Wn:Int),.int .i64 (Hn:Int),.slice (some ⟨b,off,none⟩) zs.length ca,.slice c n cc]] V fun e w'=>∃v,e=.returned v∧Nest w' V.heap.size v (fcs L p0 L.length)∧Bl V w':=fun V hV=>(LF V hV).mono fun e w' ⟨v,who,he,⟨hI,hO⟩,hN,hb⟩=>⟨v,he,by rw [faces_same hnd hkd hP0 hI hO];exact hN,hb⟩
   have CF:Hid (∀V:World,Bl w V→Calls Tryz.prog 13 #[.agg #[.int .i64 (Wn:Int),.int .i64 (Hn:Int),.slice (some ⟨b,off,none⟩) zs.length ca,.slice c n cc]] V fun e w'=>∃a' c',e=.returned (.slice a' (fcs L p0 L.length).length c')∧Bl V w'):=fun V hV=>(CFN V hV).mono fun e w' ⟨v,he,hN,hb⟩=>by
    obtain ⟨a9,c9,rfl,_⟩:=hN.readE
    exact ⟨a9,c9,he,hb⟩
   by_cases hsz:(fcs L p0 L.length).length=hs.length
   ·obtain ⟨gh,oh,rfl⟩:=row_some hh (by omega)
    by_cases hN:hs.Nodup
    ·have hd:∀i j,i<L.length→j<L.length→mvP L M0 i=mvP L M0 j→i≠j→hOf hs p0 i≠hOf hs p0 j:=fun i j hi hj e1 e2=>by
      have:=faces_dis hC0 hJ hnd (by omega) hbd hP0 (fun i hi=>by have:=(hF.1 i hi).2;omega) hN i j (by rw [Xs];exact hi) (by rw [Xs];exact hj) (by
       have q1:=plcA_mvP (L:=L) (M:=M0) hi
       have q2:=plcA_mvP (L:=L) (M:=M0) hj
       unfold plcA at q1 q2
       rw [q1,q2]
       exact e1) e2
      rw [hgt_at hi,hgt_at hj] at this
      exact this
     refine stackLays_ok (Wn:Int) (Hn:Int) (some ⟨b,off,none⟩) c zs.length ca n cc hs.length hc gh oh zs ks hs w L.length (stS L M0 (hOf hs p0)).length M0 (stS L M0 (hOf hs p0)) CS CI (fun V a' b' a3 ca' cb' c3 hV r1 r2 hf r3=>(LA V a' b' a3 ca' cb' c3 hV r1 r2 hf r3).mono fun e w' h=>?_) hMay CP (hsz ▸ CF) (fun V g hV hM=>?_) (fun V a1 b1 a2 b2 t1 t2 ca1 cb1 g1 c1 u1 ca2 cb2 g2 c2 u2 ⟨x1,x2,x3,x4⟩ ⟨y1,y2,y3,y4⟩=>?_) hh rfl (by omega) hN
     ·rcases h with ⟨M,part,hc9,hp9,hb9,h⟩|⟨hno,_⟩
      ·have e1:=parts_one hnd hp9 hP0
       have e2:=top_same e1
       rcases h with ⟨h,_⟩|⟨_,h,_⟩|⟨_,_,v,he,hST⟩
       ·exact absurd (by omega) h
       ·exact absurd hN h
       ·obtain ⟨a9,ca9,b9,cb9,g9,c9,t9,u9,hv,r1,r2,⟨r3,_⟩,r4,hb⟩:=laid_state (cons_one hJ hnd hc9 hC0) e1 hd hST
        cases hv
        exact ⟨a9,ca9,b9,cb9,g9,c9,t9,u9,he,r1.row,r2.row,r3,r4.row,hb⟩
      ·exact absurd hex (by rw [←hL];exact hno)
     ·refine (layOf_any Wn Hn b off ca zs.length n cc L.length g L.length gh oh hc hs.length c zs ks hs L M0 (fcs L p0 L.length) p0 V (fun V2 hV2=>LT V2 (Qe hV hV2)) (fun V2 hV2=>CFN V2 (Qe hV hV2)) (fun V2 hV2=>LO V2 (Qe hV hV2)) hF rfl hsz.symm (by omega) (fun f hf=>Nat.le_trans (hF2 f hf) hlen) rfl h0 hlen hM (cons_good hJ hnd (by omega) hbd hC0) (hh.kept hV) hbd hnd).mono fun e w' h=>?_
      obtain ⟨hq,eq,a9,ca9,b9,cb9,g9,c9,t9,u9,he,r1,r2,⟨r3,_⟩,r4,hb⟩:=h
      have e5:trS L (hpN (mvP L M0) (hvs hq) L.length)=stS L M0 (hOf hs p0):=by
       unfold stS
       rw [hpN_same (h':=hOf hs p0) (fun i j hi hj e1 e2 e3=>hd i j hi hj e1 e2 (by
        have q1:=eq i hi
        have q2:=eq j hj
        unfold hOf
        rw [←q1,←q2]
        exact e3)) (fun j hj=>eq j hj)]
      rw [e5] at he r4
      exact ⟨a9,ca9,b9,cb9,g9,c9,t9,u9,he,r1.row,r2.row,r3,r4.row,hb⟩
     ·exact sameState_yes (Wn:Int) (Hn:Int) a1 a2 b1 b2 ca1 ca2 cb1 cb2 n g1 g2 c1 c2 L.length u1 u2 t1 t2 zs ks M0 (stS L M0 (hOf hs p0)) V x1 y1 x2 y2 hn h1 h2 x3 y3 (by omega) x4 y4 (Nat.le_trans (stS_len _ _ _) (by omega)) (fun s hs9=>Nat.le_trans (stS_lens _ _ _ s hs9) (by omega))
    ·refine stackLays_twice (Wn:Int) (Hn:Int) (some ⟨b,off,none⟩) c zs.length ca n cc hs.length hc gh oh zs ks hs w L.length M0 CS CI (fun V a' b' a3 ca' cb' c3 hV r1 r2 hf r3=>(LA V a' b' a3 ca' cb' c3 hV r1 r2 hf r3).mono fun e w' h=>?_) hMay CP (hsz ▸ CF) hh rfl (by omega) hN
     rcases h with ⟨M,part,hc9,hp9,hb9,h⟩|⟨hno,_⟩
     ·have e1:=parts_one hnd hp9 hP0
      have e2:=top_same e1
      rcases h with ⟨h,_⟩|⟨_,_,he⟩|⟨_,h,_⟩
      ·exact absurd (by omega) h
      ·exact ⟨he,hb9⟩
      ·exact absurd h hN
     ·exact absurd hex (by rw [←hL];exact hno)
   ·refine stackLays_size (Wn:Int) (Hn:Int) (some ⟨b,off,none⟩) c ah zs.length ca n cc hs.length hc zs ks hs w L.length (fcs L p0 L.length).length M0 CS CI (fun V a' b' a3 ca' cb' c3 hV r1 r2 hf r3=>(LA V a' b' a3 ca' cb' c3 hV r1 r2 hf r3).mono fun e w' h=>?_) hMay CP CF hsz
    rcases h with ⟨M,part,hc9,hp9,hb9,h⟩|⟨hno,_⟩
    ·have e1:=parts_one hnd hp9 hP0
     have e2:=top_same e1
     rcases h with ⟨_,he⟩|⟨h,_⟩|⟨h,_⟩
     ·exact ⟨he,hb9⟩
     ·exact absurd (by omega) hsz
     ·exact absurd (by omega) hsz
    ·exact absurd hex (by rw [←hL];exact hno)
  ·refine stackLays_tear (Wn:Int) (Hn:Int) (some ⟨b,off,none⟩) c ah zs.length ca n cc hs.length hc zs ks hs w CS CI (fun V a' b' a3 ca' cb' c3 hV r1 r2 hf r3=>(LA V a' b' a3 ca' cb' c3 hV r1 r2 hf r3).mono fun e w' h=>?_) hMay (fun V hV=>(LP V hV).mono fun e w' ⟨hb,h⟩=>?_)
   ·rcases h with ⟨M,part,hc9,_⟩|⟨_,he,hb⟩
    ·exact absurd ⟨M,hc9⟩ hex
    ·exact ⟨he,hb⟩
   ·rcases h with ⟨M,g,hc9,_⟩|⟨_,he⟩
    ·exact absurd ⟨M,hc9⟩ hex
    ·exact ⟨he,hb⟩
end Go.Proofs.YtgpjaecgkkgehaaGreatDoor
namespace Go.Proofs.YtgpjaecgkkgehaaGreatDoor
open Go.ChangeShapes Go.WideShapes Go.ChangeAt Go.WideMaps Go.WideElems Go.RowKit Go.Joins
theorem ints_of {H:Type} {enc:TypeId×Value→H} {W:World} {base:Nat} {v:Value} {d:DataW H} {p:List MemPlace} (hv:Value.okWide Tryz.prog W .any base 22 v)
  (h:DataW.Trod enc Tryz.prog W 0 (fun _=>true) true 22 v d p) (hk:∀n∈d.weights Tryz.prog 22,n≤reachBytes) :
  ∃(a:Option Addr) (c:Nat) (l:List Int),v=.slice a l.length c∧Row W a l∧l.length≤17592186044416:=by
 obtain ⟨a0,n0,c0,rfl⟩:=okWide_slice Tryz.underlying22 hv
 obtain ⟨fuel,hf⟩:=h
 rcases open_ints Tryz.underlying22 Tryz.underlying3 c3 hf with ⟨r2,_⟩|⟨x,n,cap,zs,r2,_,hl,_,hz,hy,hcell,_⟩
 ·simp [Value.cells] at r2
  obtain ⟨rfl,rfl,rfl⟩:=r2
  exact ⟨none,0,[],rfl,fun i hi=>by simp at hi,by simp⟩
 ·simp [Value.cells] at r2
  obtain ⟨rfl,rfl,rfl⟩:=r2
  have hz':zs.length=c0:=by simpa using hz
  have hlz:(zs.take n0).length=n0:=by rw [List.length_take];omega
  refine ⟨some x,c0,zs.take n0,by rw [hlz],fun i hi=>?_,?_⟩
  ·have hi2:=hi
   rw [hlz] at hi2
   obtain ⟨b,off,rfl,hc'⟩:=ints_at hcell (by omega)
   refine ⟨b,off,rfl,?_⟩
   rw [hc' i (by omega),List.getElem_take,List.getD_eq_getElem?_getD,List.getElem?_eq_getElem (by omega)]
   rfl
  ·simp only [Prod.mk.injEq] at hy
   have:=hk (((lits (H:=H) .i64 (zs.take n0)).length+(lits (H:=H) .i64 (zs.drop n0)).length)*Tryz.prog.bytesOf 3) (by rw [hy.1];simp [DataW.weights,Tryz.underlying22])
   rw [by3,show (lits (H:=H) .i64 (zs.take n0)).length=(zs.take n0).length by simp [lits]] at this
   unfold reachBytes at this
   omega
end Go.Proofs.YtgpjaecgkkgehaaGreatDoor
