/- A part of the proof of foldFlat_holds. -/
import Derived.Test.YtgpjaecgkkgehaaGreatDoorQfbv
import Derived.Test.YtgpjaecgkkgehaaGreatDoorQfbx
import Derived.Test.YtgpjaecgkkgehaaGreatDoorQfbl
import Derived.Test.YtgpjaecgkkgehaaGreatDoorQfbo
import Derived.Test.YtgpjaecgkkgehaaGreatDoorQfbh
import Derived.Test.YtgpjaecgkkgehaaGreatDoorQfbj
import Derived.Test.YtgpjaecgkkgehaaGreatDoorQfby
import Derived.Test.YtgpjaecgkkgehaaGreatDoorQfbi
import Derived.Test.YtgpjaecgkkgehaaGreatDoorQfbm
import Derived.Test.YtgpjaecgkkgehaaGreatDoorQfam
namespace Go.Proofs
open Go.Shelf
def Tryz.blen_ren:Go.Shelf.Ren:=⟨fun | 15=>140 | 28=>171 | 29=>172 | n=>n,fun | 39=>182 | 3=>3 | 53=>210 | 55=>213 | 4=>4 | 5=>5 | 9=>9 | n=>n,fun | n=>n⟩
theorem Tryz.blen:Go.Proofs.SlLaysF0.n15 Tryz.prog Tryz.blen_ren:={
 mixed:=by kernel_rfl
 f15:=Tryz.func140.trans (congrArg some (by kernel_rfl))
 f28:=Tryz.func171.trans (congrArg some (by kernel_rfl))
 f29:=Tryz.func172.trans (congrArg some (by kernel_rfl))
 t3:=Tryz.underlying3
 a3:=Tryz.isAgg3
 z3:=Tryz.sizeOf3
 v3:=Tryz.zeroValue3
 t4:=Tryz.underlying4
 a4:=Tryz.isAgg4
 z4:=Tryz.sizeOf4
 v4:=Tryz.zeroValue4
 t5:=Tryz.underlying5
 a5:=Tryz.isAgg5
 z5:=Tryz.sizeOf5
 v5:=Tryz.zeroValue5
 t9:=Tryz.underlying9
 a9:=Tryz.isAgg9
 z9:=Tryz.sizeOf9
 v9:=Tryz.zeroValue9
 t39:=Tryz.underlying182
 a39:=Tryz.isAgg182
 z39:=Tryz.sizeOf182
 v39:=Tryz.zeroValue182
 t53:=Tryz.underlying210
 a53:=Tryz.isAgg210
 z53:=Tryz.sizeOf210
 v53:=Tryz.zeroValue210
 t55:=Tryz.underlying213
 a55:=Tryz.isAgg213
 z55:=Tryz.sizeOf213
 v55:=Tryz.zeroValue213 }
end Go.Proofs
namespace Go.Proofs.YtgpjaecgkkgehaaGreatDoor
open Go.RowKit
set_option maxRecDepth 100000 in
theorem sortNums_any (w:World) (g o n cap N:Nat) (rv:Value) (cf:Nat→Nat→Int) (hc:CmpF w g N rv cf) (hO:Sort.SWO (ltF cf)) (d:Array Nat) (hd:d.size=n) (hN:∀ k,k<d.size→d[k]! < N) (hn:n≤300) (hw:SrtW w w g o d) :
  Calls Tryz.prog 110 #[.slice (some ⟨g,o,none⟩) n cap,.func (.func 111) #[rv] #[]] w fun e w'=>e=.returned (.tuple #[])∧∃ d',Sort.PermIn 0 n d d'∧Sort.SortedIn (ltF cf) 0 n d'∧SrtW w w' g o d':=by
 have hlim:Lib.bitLen n≤62:=Lib.bitLen_le n 62 (by omega) (by omega)
 have hl:Calls Tryz.prog 140 #[.int .u64 (n:Int)] w fun e w'=>e=.returned (.int .i64 (Lib.bitLen n:Nat))∧w'=w:=by
  have h:=Any.bits_Len (SlLaysF0.n15.bits (P:=Tryz.prog) (ρ:=Tryz.blen_ren) Tryz.blen) (n:Int) w (by omega) (by omega)
  rw [Int.toNat_natCast] at h
  exact h
 obtain ⟨lm,hlm⟩:∃ lm,lm=Lib.bitLen n:=⟨_,rfl⟩
 rw [← hlm] at hl hlim
 have HL:Hid (Calls Tryz.prog 140 #[.int .u64 (n:Int)] w fun e w'=>e=.returned (.int .i64 (lm:Int))∧w'=w):=hl
 have HP:Hid (Calls Tryz.prog 144 #[.slice (some ⟨g,o,none⟩) n cap,.int .i64 0,.int .i64 (n:Int),.int .i64 (lm:Int),.func (.func 111) #[rv] #[]] w fun e w'=>e=.returned (.tuple #[])∧SrtW w w' g o (Sort.pdq (ltF cf) d 0 n lm true true)):=by
  have:=pdq_any w g o n cap N rv cf hc hO hn (n+1) 0 n lm d w (by omega) hd hw (by omega) (by omega) (by omega) hN (Or.inl rfl)
  exact this
 have hs:=Sort.pdq_sorts (ltF cf) hO d 0 n lm true true (by omega) (by omega) (Or.inl rfl)
 obtain ⟨d',hd'⟩:∃ d',d'=Sort.pdq (ltF cf) d 0 n lm true true:=⟨_,rfl⟩
 rw [← hd'] at HP hs
 have HS:Hid (Sort.PermIn 0 n d d'∧Sort.SortedIn (ltF cf) 0 n d'):=hs
 have wr:IntKind.u64.wrap (n:Int)=(n:Int):=by simp [IntKind.wrap,IntKind.bits,IntKind.signed];omega
 clear hs hd' hlm hl hw hc hO hN hd
 go_enter Tryz.func110,Tryz.ntmps110
 go_wp2_with (first | (go_at_call 140;refine HL.out.mono ?_;rintro e w1 ⟨rfl,hw1⟩;have hw3:=hw1.symm;clear hw1;subst hw3) | (go_at_call 144;refine HP.out.mono ?_;rintro e w2 ⟨rfl,hw2⟩;have HW2:Hid (SrtW w w2 g o d'):=hw2;clear hw2))
 go_end0
 exact ⟨rfl,d',HS.out.1,HS.out.2,HW2.out⟩
theorem ltF_key (h:Nat→Int):ltF (fun x y=>cmp3 (h x) (h y))=fun x y=>decide (h x<h y):=by
 funext x y
 unfold ltF cmp3
 by_cases q:h x<h y
 ·simp [q]
 ·by_cases q2:h y<h x
  ·simp [q,q2]
  ·simp [q,q2]
theorem sortsN_of (w:World) (N:Nat) (rv:Value) (h:Nat→Int) (hc:∀ W:World,Below w.heap.size w W→∀ x y:Nat,x<N→y<N→Calls Tryz.prog 111 #[rv,.int .i64 (x:Int),.int .i64 (y:Int)] W fun e w'=>e=.returned (.int .i64 (cmp3 (h x) (h y)))∧Below W.heap.size W w'):SortsN w N rv h:=by
 intro W g cap R hb hg hne hlen hR hN
 have hcf:CmpF W g N rv (fun x y=>cmp3 (h x) (h y)):=fun wx hgr x y hx hy=>hc wx (hb.grown hgr hb.size (fun r e=>by cases e;exact hg)) x y hx hy
 have hSO:Sort.SWO (ltF (fun x y=>cmp3 (h x) (h y))):=by rw [ltF_key];exact swo_key h
 have hlt:g<W.heap.size:=World.block_lt_of_cell? _ _ (hN 0 (List.length_pos_iff.2 hne)).1
 have hS:SrtW W W g 0 R.toArray:=⟨fun j hj=>by
  have hj2:j<R.length:=by simpa using hj
  obtain ⟨c1,c2⟩:=hN j hj2
  rw [Nat.zero_add,getElem!_pos _ j hj]
  simp only [List.getElem_toArray]
  exact ⟨c1,c2⟩,⟨rfl,rfl,rfl,Nat.le_refl _,fun _ _ _=>rfl⟩,hlt⟩
 refine (sortNums_any W g 0 R.length cap N rv _ hcf hSO R.toArray (by simp) (fun k hk=>by
  rw [getElem!_pos _ k hk]
  simp only [List.getElem_toArray]
  exact hR _ (List.getElem_mem _)) hlen hS).mono ?_
 rintro e w' ⟨rfl,d',hp,hs,hw⟩
 have hsz:d'.size=R.length:=by simpa using hp.1
 refine ⟨rfl,d'.toList, ?_, ?_, ?_,hw.gr⟩
 ·have h3:=hp.2.2
  have e1:(d'.extract 0 R.length).toList=d'.toList:=by
   rw [← hsz]
   simp
  have e2:(R.toArray.extract 0 R.length).toList=R:=by simp
  rw [e1,e2] at h3
  exact h3
 ·unfold Upw
  rw [List.pairwise_iff_getElem]
  intro i j hi hj hij
  have:=hs i j (Nat.zero_le _) hij (by simpa [hsz] using hj)
  have hi2:i<d'.size:=by simpa using hi
  have hj2:j<d'.size:=by simpa using hj
  rw [getElem!_pos d' i hi2,getElem!_pos d' j hj2,ltF_key,decide_eq_false_iff_not] at this
  simpa using this
 ·intro i hi
  have hi2:i<d'.size:=by simpa using hi
  obtain ⟨c1,c2⟩:=hw.row i hi2
  rw [Nat.zero_add,getElem!_pos d' i hi2] at c1
  rw [Nat.zero_add] at c2
  exact ⟨by simpa using c1,c2⟩
open Go.RowKit
theorem nodup_at {α:Type} {l:List α} (h:l.Nodup) {i j:Nat} (hi:i<l.length) (hj:j<l.length) (e:l[i]=l[j]):i=j:=by
 have hp:=List.pairwise_iff_getElem.1 h
 rcases Nat.lt_trichotomy i j with q | q | q
 ·exact absurd e (hp i j hi hj q)
 ·exact q
 ·exact absurd e.symm (hp j i hj hi q)
theorem face_map {kd:Int×Int×Int×Int→Int} {L:List (Int×Int×Int)} {M:Nat→M6} (hC:Cons kd L M) (hnd:L.Nodup) {t u:Int×Int×Int} (h:ReachC (fun e=>decide (kd e=0)) L t u):∀ i j (hi:i<L.length) (hj:j<L.length),L[i]=t→L[j]=u→M i=M j:=by
 induction h using ReachC.ind with
 | here h =>
  intro i j hi hj e1 e2
  have:=nodup_at hnd hi hj (e1.trans e2.symm)
  rw [this]
 | @step u v hr hv ha ih =>
  intro i j hi hj e1 e2
  obtain ⟨k,hk,ek⟩:=List.getElem_of_mem hr.mem.2
  have h1:=ih i k hi hk e1 ek
  obtain ⟨hne,e,he1,he2,he3⟩:=ha
  have hkj:k≠j:=fun q=>hne (by subst q;rw [← e2,ek])
  have h2:=hC.2 k j hk hj e hkj (by rw [ek];exact he1) (by rw [e2];exact he2)
  have hz:kd e=0:=by simpa using he3
  rw [h2,farM,if_pos hz]
  exact h1
def lbs (part:Nat→Int) (n:Nat):List Nat:=(List.range n).map fun i=>(part i).toNat
theorem lbs_len (part:Nat→Int) (n:Nat):(lbs part n).length=n:=by simp [lbs]
theorem lbs_at {part:Nat→Int} {n i:Nat} (hi:i<n):(lbs part n).getD i 0=(part i).toNat:=by
 rw [List.getD_eq_getElem?_getD]
 simp [lbs,hi]
theorem faces_dis {kd:Int×Int×Int×Int→Int} {L:List (Int×Int×Int)} {M:Nat→M6} {part:Nat→Int} {hs:List Int} (hC:Cons kd L M) (hJ:Joined L) (hnd:L.Nodup) (hL:L.length≤300) (hbd:∀ t∈L,(0≤t.1∧t.1≤8)∧(0≤t.2.1∧t.2.1≤8)∧(0≤t.2.2∧t.2.2≤3)) (hP:PartsOk (fun e=>decide (kd e=0)) L part) (hlt:∀ i,i<L.length→part i<hs.length) (hN:hs.Nodup) :
  ∀ i j,i<(pls L M L.length).length→j<(pls L M L.length).length→(pls L M L.length).getD i (0,0,0)=(pls L M L.length).getD j (0,0,0)→i≠j→hgt hs (lbs part L.length) i≠hgt hs (lbs part L.length) j:=by
 intro i j hi hj he hne hh
 rw [pls_len] at hi hj
 have p1:=hP.1 i hi
 have p2:=hP.1 j hj
 have l1:=hlt i hi
 have l2:=hlt j hj
 have hpp:part i=part j:=by
  unfold hgt at hh
  rw [lbs_at hi,lbs_at hj] at hh
  have q1:(part i).toNat<hs.length:=by omega
  have q2:(part j).toNat<hs.length:=by omega
  rw [List.getD_eq_getElem?_getD,List.getD_eq_getElem?_getD,List.getElem?_eq_getElem q1,List.getElem?_eq_getElem q2] at hh
  have:=nodup_at hN q1 q2 (by simpa using hh)
  omega
 have hr:=hP.2.2.1 i j hi hj hpp
 have hM:=face_map hC hnd hr i j hi hj rfl rfl
 have hg:=cons_good hJ hnd hL hbd hC i hi
 have e1:(pls L M L.length).getD i (0,0,0)=mvt (M i) L[i]:=by
  rw [List.getD_eq_getElem?_getD]
  simp [pls,hi]
 have e2:(pls L M L.length).getD j (0,0,0)=mvt (M j) L[j]:=by
  rw [List.getD_eq_getElem?_getD]
  simp [pls,hj]
 rw [e1,e2,← hM] at he
 have:=mvt_inj hg.1 (hbd L[i] (List.getElem_mem hi)).2.2 (hbd L[j] (List.getElem_mem hj)).2.2 he
 exact hne (nodup_at hnd hi hj this)
end Go.Proofs.YtgpjaecgkkgehaaGreatDoor
namespace Go.Proofs.YtgpjaecgkkgehaaGreatDoor
open Go.RowKit Go.Shelf Go.Lib
set_option maxRecDepth 100000 in
set_option maxHeartbeats 6400000 in
theorem lay_tear (w:World) (W H:Int) (a cb ah:Option Addr) (m ca n ccap hn hc:Nat) (CP:Hid (∀ V:World,Below w.heap.size w V→Calls Tryz.prog 28 #[.agg #[.int .i64 W,.int .i64 H,.slice a m ca,.slice cb n ccap]] V fun e w'=>e=.returned (.tuple #[.agg #[.slice none 0 0,.map none,.map none,.slice none 0 0,.slice none 0 0],.int .i64 8])∧Below V.heap.size V w')) :
  Calls Tryz.prog 7 #[.agg #[.int .i64 W,.int .i64 H,.slice a m ca,.slice cb n ccap],.slice ah hn hc] w fun e w'=>e=.returned (.tuple #[.agg #[.int .i64 0,.int .i64 0,.slice none 0 0,.slice none 0 0,.slice none 0 0,.slice none 0 0],.int .i64 8])∧Below w.heap.size w w':=by
 go_enter Tryz.func7,Tryz.ntmps7
 go_upto_region 1 with fail
 refine wp_named (fun W0 hW0=>?_)
 have hw0:Below w.heap.size w W0:=by rw [hW0];exact bl_alloc (bl_alloc (bl_alloc (bl_refl _)))
 have x00:W0.cell? ⟨w.heap.size,0,none⟩=some (.int .i64 W):=by rw [hW0];simp [go_sem]
 have x01:W0.cell? ⟨w.heap.size,1,none⟩=some (.int .i64 H):=by rw [hW0];simp [go_sem]
 have x02:W0.cell? ⟨w.heap.size,2,none⟩=some (.slice a m ca):=by rw [hW0];simp [go_sem]
 have x03:W0.cell? ⟨w.heap.size,3,none⟩=some (.slice cb n ccap):=by rw [hW0];simp [go_sem]
 have x04:W0.cell? ⟨w.heap.size+1,0,none⟩=some (.slice ah hn hc):=by rw [hW0];simp [go_sem]
 have y00:W0.cell? ⟨w.heap.size+2,0,none⟩=some (.int .i64 0):=by rw [hW0];simp [go_sem]
 have f00:W0.frozen? ⟨w.heap.size+2,0,none⟩=false:=by rw [hW0];simp [go_sem]
 have y01:W0.cell? ⟨w.heap.size+2,1,none⟩=some (.int .i64 0):=by rw [hW0];simp [go_sem]
 have f01:W0.frozen? ⟨w.heap.size+2,1,none⟩=false:=by rw [hW0];simp [go_sem]
 have y02:W0.cell? ⟨w.heap.size+2,2,none⟩=some (.slice none 0 0):=by rw [hW0];simp [go_sem]
 have f02:W0.frozen? ⟨w.heap.size+2,2,none⟩=false:=by rw [hW0];simp [go_sem]
 have y03:W0.cell? ⟨w.heap.size+2,3,none⟩=some (.slice none 0 0):=by rw [hW0];simp [go_sem]
 have f03:W0.frozen? ⟨w.heap.size+2,3,none⟩=false:=by rw [hW0];simp [go_sem]
 have y04:W0.cell? ⟨w.heap.size+2,4,none⟩=some (.slice none 0 0):=by rw [hW0];simp [go_sem]
 have f04:W0.frozen? ⟨w.heap.size+2,4,none⟩=false:=by rw [hW0];simp [go_sem]
 have y05:W0.cell? ⟨w.heap.size+2,5,none⟩=some (.slice none 0 0):=by rw [hW0];simp [go_sem]
 have f05:W0.frozen? ⟨w.heap.size+2,5,none⟩=false:=by rw [hW0];simp [go_sem]
 have z0:w.heap.size+2<W0.heap.size:=World.block_lt_of_cell? _ _ y00
 clear hW0
 go_upto_region 2 with (go_at_call 28;refine (CP.out _ hw0).mono ?_;rintro e w1 ⟨rfl,hb1⟩)
 have x10:=cl_kept hb1 x00
 have x11:=cl_kept hb1 x01
 have x12:=cl_kept hb1 x02
 have x13:=cl_kept hb1 x03
 have x14:=cl_kept hb1 x04
 have y10:=cl_kept hb1 y00
 have f10:=(hb1.frozen (p:=⟨w.heap.size+2,0,none⟩) z0).trans f00
 have y11:=cl_kept hb1 y01
 have f11:=(hb1.frozen (p:=⟨w.heap.size+2,1,none⟩) z0).trans f01
 have y12:=cl_kept hb1 y02
 have f12:=(hb1.frozen (p:=⟨w.heap.size+2,2,none⟩) z0).trans f02
 have y13:=cl_kept hb1 y03
 have f13:=(hb1.frozen (p:=⟨w.heap.size+2,3,none⟩) z0).trans f03
 have y14:=cl_kept hb1 y04
 have f14:=(hb1.frozen (p:=⟨w.heap.size+2,4,none⟩) z0).trans f04
 have y15:=cl_kept hb1 y05
 have f15:=(hb1.frozen (p:=⟨w.heap.size+2,5,none⟩) z0).trans f05
 have z1:=Nat.lt_of_lt_of_le z0 hb1.size
 clear x00 x01 x02 x03 x04 y00 f00 y01 f01 y02 f02 y03 f03 y04 f04 y05 f05
 have HB1:Hid (Below w.heap.size w w1):=bl_via hw0 hb1
 clear hb1 hw0 x10 x11 x12 x13 x14
 go_wp2
 refine bodyPost_ret (v:=.tuple #[.agg #[.int .i64 0,.int .i64 0,.slice none 0 0,.slice none 0 0,.slice none 0 0,.slice none 0 0],.int .i64 8]) (by simp [results,Tryz.results7,go_sem, *]) rfl ⟨rfl, ?_⟩
 with_reducible repeat' (first | exact HB1.out | refine bl_set ?_ ?_ | refine bl_drew ?_ | refine bl_alloc ?_)
 all_goals (dsimp only;omega)
end Go.Proofs.YtgpjaecgkkgehaaGreatDoor
namespace Go.Proofs.YtgpjaecgkkgehaaGreatDoor
open Go.RowKit Go.Shelf Go.Lib
theorem foldl_max (l:List Int):∀ m:Int,(∀ x∈l,x≤l.foldl max m)∧m≤l.foldl max m∧(l.foldl max m=m∨l.foldl max m∈l):=by
 induction l with
 | nil=>intro m;simp
 | cons y r ih =>
  intro m
  obtain ⟨h1,h2,h3⟩:=ih (max m y)
  rw [List.foldl_cons]
  refine ⟨fun x hx=>?_,by omega, ?_⟩
  ·rcases List.mem_cons.1 hx with rfl | hx
   ·omega
   ·exact h1 x hx
  ·rcases h3 with h3 | h3
   ·rcases Int.le_total m y with q | q
    ·right
     have:max m y=y:=by omega
     rw [h3,this]
     simp
    ·left
     omega
   ·right
    simp [h3]
def topP (part:Nat→Int) (n:Nat):Int:=Lib.maxOf ((List.range n).map part)
theorem topP_le {part:Nat→Int} {n i:Nat} (hi:i<n):part i≤topP part n:=by
 have hm:part i∈(List.range n).map part:=List.mem_map.2 ⟨i,by simpa using hi,rfl⟩
 unfold topP Lib.maxOf
 exact (foldl_max _ _).1 _ hm
theorem topP_at {part:Nat→Int} {n:Nat} (h0:0<n):∃ i,i<n∧part i=topP part n:=by
 unfold topP Lib.maxOf
 rcases (foldl_max ((List.range n).map part) (((List.range n).map part).headD 0)).2.2 with h | h
 ·refine ⟨0,h0, ?_⟩
  rw [h]
  cases n with
  | zero=>omega
  | succ k=>simp [List.range_succ_eq_map]
 ·obtain ⟨i,hi,e⟩:=List.mem_map.1 h
  exact ⟨i,by simpa using hi,e⟩
theorem parts_le {cr:Int×Int×Int×Int→Bool} {L:List (Int×Int×Int)} {part:Nat→Int} (h:PartsOk cr L part):∀ a,a<L.length→part a≤(a:Int):=by
 intro a
 induction a using Nat.strongRecOn with
 | ind a ih =>
  intro ha
  rcases Int.lt_or_le 0 (part a) with q | q
  ·obtain ⟨b,hb,e⟩:=h.2.2.2 a ha (part a - 1) (by omega) (by omega)
   have:=ih b hb (by omega)
   omega
  ·omega
theorem topP_bd {cr:Int×Int×Int×Int→Bool} {L:List (Int×Int×Int)} {part:Nat→Int} (h:PartsOk cr L part) (h0:0<L.length) (hL:L.length≤300):0≤topP part L.length∧topP part L.length≤299:=by
 obtain ⟨i,hi,e⟩:=topP_at (part:=part) h0
 have h1:=h.1 i hi
 have h2:=parts_le h i hi
 omega
theorem zrow_nrow {w:World} {g n:Nat} {part:Nat→Int} (h:ZRow w g n part) (h0:∀ i,i<n→0≤part i):NRow w g 0 (lbs part n):=fun i hi=>by
 have hi2:i<n:=by simpa [lbs] using hi
 have h1:=(h i hi2).1
 have h2:=h0 i hi2
 rw [Nat.zero_add,h1]
 simp only [lbs,List.getElem_map,List.getElem_range]
 rw [Int.toNat_of_nonneg h2]
theorem row_some {w:World} {a:Option Addr} {zs:List Int} (h:Row w a zs) (h0:0<zs.length):∃ g o,a=some ⟨g,o,none⟩:=by
 obtain ⟨b,off,e,_⟩:=h 0 h0
 exact ⟨b,off,e⟩
def LaidTo (w w':World) (W H:Int) (n nn:Nat) (zs ks hs:List Int) (L:List (Int×Int×Int)) (kd:Int×Int×Int×Int→Int) (e:Ending):Prop := ∃ M part,Cons kd L M∧PartsOk (fun e=>decide (kd e=0)) L part∧Below w.heap.size w w'∧(((hs.length:Int)≠topP part nn+1∧e=.returned (.tuple #[.agg #[.int .i64 0,.int .i64 0,.slice none 0 0,.slice none 0 0,.slice none 0 0,.slice none 0 0],.int .i64 2]))∨((hs.length:Int)=topP part nn+1∧¬ hs.Nodup∧e=.returned (.tuple #[.agg #[.int .i64 0,.int .i64 0,.slice none 0 0,.slice none 0 0,.slice none 0 0,.slice none 0 0],.int .i64 6]))∨((hs.length:Int)=topP part nn+1∧hs.Nodup∧∃ v,e=.returned (.tuple #[v,.int .i64 0])∧StateTo w w' W H n nn zs ks M L (plcA (pls L M nn)) (hgt hs (lbs part nn)) (.returned v)))
set_option maxRecDepth 100000 in
set_option maxHeartbeats 12800000 in
theorem lay_flat (w:World) (W H:Int) (a cb ah:Option Addr) (m ca n ccap hn hc nn:Nat) (zs ks hs:List Int) (L:List (Int×Int×Int)) (kd:Int×Int×Int×Int→Int) (CP:Hid (∀ V:World,Below w.heap.size w V→Calls Tryz.prog 28 #[.agg #[.int .i64 W,.int .i64 H,.slice a m ca,.slice cb n ccap]] V fun e w'=>∃ M ad cc ra rk gm cm pa pc,Cons kd L M∧e=.returned (.tuple #[.agg #[.slice ad nn cc,.map (some ra),.map (some rk),.slice (some ⟨gm,0,none⟩) nn cm,.slice pa nn pc],.int .i64 0])∧PileAt w' ad cc ra rk gm cm pa pc L kd M∧Below V.heap.size V w'))
  (hm:m=zs.length) (hnn:nn=L.length) (hhn:hn=hs.length) (hz:Row w a zs) (hk:Row w cb ks) (hh:Row w ah hs) (hkn:ks.length=n*5) (h1:zs.length≤17592186044416) (h2:n≤3518437208883) (ha:a=none∨∃ p off,a=some ⟨p,off,none⟩) (hb:cb=none∨∃ p off,cb=some ⟨p,off,none⟩) (hs0:Steps w) (hJ:Joined L) (hnd:L.Nodup) (hL:L.length≤300) (hbd:∀ t∈L,(0≤t.1∧t.1≤8)∧(0≤t.2.1∧t.2.1≤8)∧(0≤t.2.2∧t.2.2≤3)) :
  Calls Tryz.prog 7 #[.agg #[.int .i64 W,.int .i64 H,.slice a m ca,.slice cb n ccap],.slice ah hn hc] w fun e w'=>LaidTo w w' W H n nn zs ks hs L kd e:=by
 have HX:Hid (m=zs.length∧nn=L.length∧hn=hs.length∧Row w a zs∧Row w cb ks∧Row w ah hs∧ks.length=n*5):=⟨hm,hnn,hhn,hz,hk,hh,hkn⟩
 have HY:Hid (zs.length≤17592186044416∧n≤3518437208883∧(a=none∨∃ p off,a=some ⟨p,off,none⟩)∧(cb=none∨∃ p off,cb=some ⟨p,off,none⟩)):=⟨h1,h2,ha,hb⟩
 have HL:Hid (Steps w∧Joined L∧L.Nodup∧L.length≤300∧∀ t∈L,(0≤t.1∧t.1≤8)∧(0≤t.2.1∧t.2.1≤8)∧(0≤t.2.2∧t.2.2≤3)):=⟨hs0,hJ,hnd,hL,hbd⟩
 clear hm hnn hhn hz hk hh hkn h1 h2 ha hb hs0 hJ hnd hL hbd
 go_enter Tryz.func7,Tryz.ntmps7
 go_upto_region 1 with fail
 refine wp_named (fun W0 hW0=>?_)
 have hw0:Below w.heap.size w W0:=by rw [hW0];exact bl_alloc (bl_alloc (bl_alloc (bl_refl _)))
 have x00:W0.cell? ⟨w.heap.size,0,none⟩=some (.int .i64 W):=by rw [hW0];simp [go_sem]
 have x01:W0.cell? ⟨w.heap.size,1,none⟩=some (.int .i64 H):=by rw [hW0];simp [go_sem]
 have x02:W0.cell? ⟨w.heap.size,2,none⟩=some (.slice a m ca):=by rw [hW0];simp [go_sem]
 have x03:W0.cell? ⟨w.heap.size,3,none⟩=some (.slice cb n ccap):=by rw [hW0];simp [go_sem]
 have x04:W0.cell? ⟨w.heap.size+1,0,none⟩=some (.slice ah hn hc):=by rw [hW0];simp [go_sem]
 have y00:W0.cell? ⟨w.heap.size+2,0,none⟩=some (.int .i64 0):=by rw [hW0];simp [go_sem]
 have f00:W0.frozen? ⟨w.heap.size+2,0,none⟩=false:=by rw [hW0];simp [go_sem]
 have y01:W0.cell? ⟨w.heap.size+2,1,none⟩=some (.int .i64 0):=by rw [hW0];simp [go_sem]
 have f01:W0.frozen? ⟨w.heap.size+2,1,none⟩=false:=by rw [hW0];simp [go_sem]
 have y02:W0.cell? ⟨w.heap.size+2,2,none⟩=some (.slice none 0 0):=by rw [hW0];simp [go_sem]
 have f02:W0.frozen? ⟨w.heap.size+2,2,none⟩=false:=by rw [hW0];simp [go_sem]
 have y03:W0.cell? ⟨w.heap.size+2,3,none⟩=some (.slice none 0 0):=by rw [hW0];simp [go_sem]
 have f03:W0.frozen? ⟨w.heap.size+2,3,none⟩=false:=by rw [hW0];simp [go_sem]
 have y04:W0.cell? ⟨w.heap.size+2,4,none⟩=some (.slice none 0 0):=by rw [hW0];simp [go_sem]
 have f04:W0.frozen? ⟨w.heap.size+2,4,none⟩=false:=by rw [hW0];simp [go_sem]
 have y05:W0.cell? ⟨w.heap.size+2,5,none⟩=some (.slice none 0 0):=by rw [hW0];simp [go_sem]
 have f05:W0.frozen? ⟨w.heap.size+2,5,none⟩=false:=by rw [hW0];simp [go_sem]
 have z0:w.heap.size+2<W0.heap.size:=World.block_lt_of_cell? _ _ y00
 clear hW0
 go_upto_region 2 with (go_at_call 28;refine (CP.out _ hw0).mono ?_;rintro e w1 ⟨M,ad,cc,ra,rk,gm,cm,pa,pc,hC,rfl,hPA,hb1⟩)
 have x10:=cl_kept hb1 x00
 have x11:=cl_kept hb1 x01
 have x12:=cl_kept hb1 x02
 have x13:=cl_kept hb1 x03
 have x14:=cl_kept hb1 x04
 have y10:=cl_kept hb1 y00
 have f10:=(hb1.frozen (p:=⟨w.heap.size+2,0,none⟩) z0).trans f00
 have y11:=cl_kept hb1 y01
 have f11:=(hb1.frozen (p:=⟨w.heap.size+2,1,none⟩) z0).trans f01
 have y12:=cl_kept hb1 y02
 have f12:=(hb1.frozen (p:=⟨w.heap.size+2,2,none⟩) z0).trans f02
 have y13:=cl_kept hb1 y03
 have f13:=(hb1.frozen (p:=⟨w.heap.size+2,3,none⟩) z0).trans f03
 have y14:=cl_kept hb1 y04
 have f14:=(hb1.frozen (p:=⟨w.heap.size+2,4,none⟩) z0).trans f04
 have y15:=cl_kept hb1 y05
 have f15:=(hb1.frozen (p:=⟨w.heap.size+2,5,none⟩) z0).trans f05
 have z1:=Nat.lt_of_lt_of_le z0 hb1.size
 clear x00 x01 x02 x03 x04 y00 f00 y01 f01 y02 f02 y03 f03 y04 f04 y05 f05
 have HB1:Hid (Below w.heap.size w w1):=bl_via hw0 hb1
 have HP:Hid (Cons kd L M∧PileAt w1 ad cc ra rk gm cm pa pc L kd M):=⟨hC,hPA⟩
 clear hb1 hw0 hC hPA CP
 refine wp_named (fun W2 hW2=>?_)
 have hb2:Below w1.heap.size w1 W2:=by
  rw [hW2]
  with_reducible repeat' (first | exact bl_refl _ | refine bl_set ?_ ?_ | refine bl_alloc ?_)
  all_goals (dsimp only;omega)
 have p20:W2.cell? ⟨w1.heap.size,0,none⟩=some (.slice ad nn cc):=by rw [hW2];simp [go_sem]
 have p21:W2.cell? ⟨w1.heap.size,1,none⟩=some (.map (some ra)):=by rw [hW2];simp [go_sem]
 have p22:W2.cell? ⟨w1.heap.size,2,none⟩=some (.map (some rk)):=by rw [hW2];simp [go_sem]
 have p23:W2.cell? ⟨w1.heap.size,3,none⟩=some (.slice (some ⟨gm,0,none⟩) nn cm):=by rw [hW2];simp [go_sem]
 have p24:W2.cell? ⟨w1.heap.size,4,none⟩=some (.slice pa nn pc):=by rw [hW2];simp [go_sem]
 have zp:w1.heap.size<W2.heap.size:=World.block_lt_of_cell? _ _ p20
 clear hW2
 have x20:=cl_kept hb2 x10
 have x21:=cl_kept hb2 x11
 have x22:=cl_kept hb2 x12
 have x23:=cl_kept hb2 x13
 have x24:=cl_kept hb2 x14
 have y20:=cl_kept hb2 y10
 have f20:=(hb2.frozen (p:=⟨w.heap.size+2,0,none⟩) z1).trans f10
 have y21:=cl_kept hb2 y11
 have f21:=(hb2.frozen (p:=⟨w.heap.size+2,1,none⟩) z1).trans f11
 have y22:=cl_kept hb2 y12
 have f22:=(hb2.frozen (p:=⟨w.heap.size+2,2,none⟩) z1).trans f12
 have y23:=cl_kept hb2 y13
 have f23:=(hb2.frozen (p:=⟨w.heap.size+2,3,none⟩) z1).trans f13
 have y24:=cl_kept hb2 y14
 have f24:=(hb2.frozen (p:=⟨w.heap.size+2,4,none⟩) z1).trans f14
 have y25:=cl_kept hb2 y15
 have f25:=(hb2.frozen (p:=⟨w.heap.size+2,5,none⟩) z1).trans f15
 have z2:=Nat.lt_of_lt_of_le z1 hb2.size
 clear x10 x11 x12 x13 x14 y10 f10 y11 f11 y12 f12 y13 f13 y14 f14 y15 f15
 have HB2:Hid (Below w1.heap.size w1 W2):=hb2
 clear hb2
 have CF:Hid (Calls Tryz.prog 29 #[.agg #[.slice ad nn cc,.map (some ra),.map (some rk)]] W2 fun e w'=>∃ g part,e=.returned (.slice (some ⟨g,0,none⟩) nn nn)∧ZRow w' g nn part∧PartsOk (fun e=>decide (kd e=0)) L part∧W2.heap.size≤g∧Below W2.heap.size W2 w'):=by
  have:=pfaces_any W2 cc ra rk ad L kd (HL.out.1.kept (bl_via HB1.out HB2.out)) (HP.out.2.tr.kept HB2.out) (HP.out.2.kl.kept HB2.out) HL.out.2.2.2.1 HL.out.2.2.1 HL.out.2.2.2.2
  rw [← HX.out.2.1] at this
  exact this
 go_upto_region 5 with (go_at_call 29;refine CF.out.mono ?_;rintro e w3 ⟨g,part,rfl,hZ,hPO,hg,hb3⟩)
 have zf:W2.heap.size≤w3.heap.size:=hb3.size
 have x30:=cl_kept hb3 x20
 have x31:=cl_kept hb3 x21
 have x32:=cl_kept hb3 x22
 have x33:=cl_kept hb3 x23
 have x34:=cl_kept hb3 x24
 have y30:=cl_kept hb3 y20
 have f30:=(hb3.frozen (p:=⟨w.heap.size+2,0,none⟩) z2).trans f20
 have y31:=cl_kept hb3 y21
 have f31:=(hb3.frozen (p:=⟨w.heap.size+2,1,none⟩) z2).trans f21
 have y32:=cl_kept hb3 y22
 have f32:=(hb3.frozen (p:=⟨w.heap.size+2,2,none⟩) z2).trans f22
 have y33:=cl_kept hb3 y23
 have f33:=(hb3.frozen (p:=⟨w.heap.size+2,3,none⟩) z2).trans f23
 have y34:=cl_kept hb3 y24
 have f34:=(hb3.frozen (p:=⟨w.heap.size+2,4,none⟩) z2).trans f24
 have y35:=cl_kept hb3 y25
 have f35:=(hb3.frozen (p:=⟨w.heap.size+2,5,none⟩) z2).trans f25
 have z3:=Nat.lt_of_lt_of_le z2 hb3.size
 clear x20 x21 x22 x23 x24 y20 f20 y21 f21 y22 f22 y23 f23 y24 f24 y25 f25
 have p30:=cl_kept hb3 p20
 have p31:=cl_kept hb3 p21
 have p32:=cl_kept hb3 p22
 have p33:=cl_kept hb3 p23
 have p34:=cl_kept hb3 p24
 clear p20 p21 p22 p23 p24
 have HF:Hid (ZRow w3 g nn part∧PartsOk (fun e=>decide (kd e=0)) L part∧Below w.heap.size w w3∧Below w1.heap.size w1 w3):=⟨hZ,hPO,bl_via (bl_via HB1.out HB2.out) hb3,bl_via HB2.out hb3⟩
 clear hZ hPO hb3 CF hg HB2
 refine wp_named (fun W4 hW4=>?_)
 have hb4:Below w3.heap.size w3 W4:=by
  rw [hW4]
  with_reducible repeat' (first | exact bl_refl _ | refine bl_set ?_ ?_ | refine bl_alloc ?_)
  all_goals (dsimp only;omega)
 have q40:W4.cell? ⟨w3.heap.size,0,none⟩=some (.slice (some ⟨g,0,none⟩) nn nn):=by rw [hW4];simp [go_sem]
 have zq:w3.heap.size<W4.heap.size:=World.block_lt_of_cell? _ _ q40
 clear hW4
 have x40:=cl_kept hb4 x30
 have x41:=cl_kept hb4 x31
 have x42:=cl_kept hb4 x32
 have x43:=cl_kept hb4 x33
 have x44:=cl_kept hb4 x34
 have y40:=cl_kept hb4 y30
 have f40:=(hb4.frozen (p:=⟨w.heap.size+2,0,none⟩) z3).trans f30
 have y41:=cl_kept hb4 y31
 have f41:=(hb4.frozen (p:=⟨w.heap.size+2,1,none⟩) z3).trans f31
 have y42:=cl_kept hb4 y32
 have f42:=(hb4.frozen (p:=⟨w.heap.size+2,2,none⟩) z3).trans f32
 have y43:=cl_kept hb4 y33
 have f43:=(hb4.frozen (p:=⟨w.heap.size+2,3,none⟩) z3).trans f33
 have y44:=cl_kept hb4 y34
 have f44:=(hb4.frozen (p:=⟨w.heap.size+2,4,none⟩) z3).trans f34
 have y45:=cl_kept hb4 y35
 have f45:=(hb4.frozen (p:=⟨w.heap.size+2,5,none⟩) z3).trans f35
 have z4:=Nat.lt_of_lt_of_le z3 hb4.size
 clear x30 x31 x32 x33 x34 y30 f30 y31 f31 y32 f32 y33 f33 y34 f34 y35 f35
 have p40:=cl_kept hb4 p30
 have p41:=cl_kept hb4 p31
 have p42:=cl_kept hb4 p32
 have p43:=cl_kept hb4 p33
 have p44:=cl_kept hb4 p34
 clear p30 p31 p32 p33 p34
 have HB4:Hid (Below w3.heap.size w3 W4):=hb4
 clear hb4
 have h0:0<nn:=by rw [HX.out.2.1];exact HL.out.2.1.1
 obtain ⟨mx,hmx⟩:∃ mx,mx=topP part nn:=⟨_,rfl⟩
 have HMX:Hid (mx=topP part nn):=hmx
 have CM:Hid (∀ V:World,Below W4.heap.size W4 V→Calls Tryz.prog 30 #[.slice (some ⟨g,0,none⟩) nn nn] V fun e w'=>e=.returned (.int .i64 mx)∧Below V.heap.size V w'):=fun V hV=>by
  have hn3:nn≤300:=by rw [HX.out.2.1];exact HL.out.2.2.2.1
  have:=Tryz.slices_Max_int g 0 nn nn ((List.range nn).map part) V h0 (by simp) (by omega) (fun j hj=>by
     have hj':j<nn:=by simpa using hj
     rw [Nat.zero_add,cl_kept (bl_via HB4.out hV) (HF.out.1 j hj').1]
     simp [hj'])
  refine this.mono ?_
  rintro e w' ⟨rfl,rfl⟩
  rw [List.take_of_length_le (by simp)]
  exact ⟨by rw [hmx];rfl,bl_refl _⟩
 have hmb:0≤mx∧mx≤299:=by
  have:=topP_bd HF.out.2.1 (by rw [← HX.out.2.1];exact h0) HL.out.2.2.2.1
  rw [hmx,HX.out.2.1]
  exact this
 clear hmx
 obtain ⟨hm0,hm3⟩:=hmb
 have zA:w.heap.size+1<W4.heap.size:=by omega
 have kc:=Kin.cells W4
 have kn:Nonempty (Kin W4):=⟨⟨W4,bl_refl _⟩⟩
 refine wp_region_kin (by kernel_rfl) (by kernel_rfl) ?_
 repeat (go_big_quiet_step ((go_at_call 30;exact kin_of (CM.out _ (Kin.h _)))))
 refine wpQuiet_nil ?_
 intro wq hw'
 obtain ⟨nq,hw''⟩:=hw'
 have hb5:Below W4.heap.size W4 wq:=hw'' ▸ nq.h
 clear hw'' nq kc kn CM
 have q50:=cl_kept hb5 q40
 clear q40
 have x50:=cl_kept hb5 x40
 have x51:=cl_kept hb5 x41
 have x52:=cl_kept hb5 x42
 have x53:=cl_kept hb5 x43
 have x54:=cl_kept hb5 x44
 have y50:=cl_kept hb5 y40
 have f50:=(hb5.frozen (p:=⟨w.heap.size+2,0,none⟩) z4).trans f40
 have y51:=cl_kept hb5 y41
 have f51:=(hb5.frozen (p:=⟨w.heap.size+2,1,none⟩) z4).trans f41
 have y52:=cl_kept hb5 y42
 have f52:=(hb5.frozen (p:=⟨w.heap.size+2,2,none⟩) z4).trans f42
 have y53:=cl_kept hb5 y43
 have f53:=(hb5.frozen (p:=⟨w.heap.size+2,3,none⟩) z4).trans f43
 have y54:=cl_kept hb5 y44
 have f54:=(hb5.frozen (p:=⟨w.heap.size+2,4,none⟩) z4).trans f44
 have y55:=cl_kept hb5 y45
 have f55:=(hb5.frozen (p:=⟨w.heap.size+2,5,none⟩) z4).trans f45
 have z5:=Nat.lt_of_lt_of_le z4 hb5.size
 clear x40 x41 x42 x43 x44 y40 f40 y41 f41 y42 f42 y43 f43 y44 f44 y45 f45
 have p50:=cl_kept hb5 p40
 have p51:=cl_kept hb5 p41
 have p52:=cl_kept hb5 p42
 have p53:=cl_kept hb5 p43
 have p54:=cl_kept hb5 p44
 clear p40 p41 p42 p43 p44
 have HB5:Hid (Below w.heap.size w wq∧Below w1.heap.size w1 wq∧Below w3.heap.size w3 wq):=⟨bl_via HF.out.2.2.1 (bl_via HB4.out hb5),bl_via HF.out.2.2.2 (bl_via HB4.out hb5),bl_via HB4.out hb5⟩
 clear hb5
 by_cases hlen:(hn:Int)=mx+1
 ·have HN:Hid ((hn:Int)=mx+1):=hlen
  have hh0:0<hs.length∧hs.length≤300:=by
   have:=HX.out.2.2.1
   omega
  obtain ⟨gh,oh,hah⟩:=row_some HX.out.2.2.2.2.2.1 hh0.1
  subst hah
  have HH:Hid (0<hs.length∧hs.length≤300):=hh0
  clear hh0
  have CT:Hid (Calls Tryz.prog 31 #[.slice (some ⟨gh,oh,none⟩) hn hc] wq fun e w'=>e=.returned (.bool (decide (¬ hs.Nodup)))∧Below wq.heap.size wq w'):=by
   have:=twice_any wq (some ⟨gh,oh,none⟩) hc hs HH.out.1 HH.out.2 (HX.out.2.2.2.2.2.1.kept HB5.out.1)
   rw [← HX.out.2.2.1] at this
   exact this
  by_cases hnd:hs.Nodup
  ·have e0:decide (¬ hs.Nodup)=false:=by simp [hnd]
   rw [e0] at CT
   have HD:Hid (hs.Nodup):=hnd
   clear e0 hnd
   go_upto_region 9 with (go_at_call 31;refine CT.out.mono ?_;rintro e w6 ⟨rfl,hb6⟩)
   have q60:=cl_kept hb6 q50
   have x60:=cl_kept hb6 x50
   have x61:=cl_kept hb6 x51
   have x62:=cl_kept hb6 x52
   have x63:=cl_kept hb6 x53
   have x64:=cl_kept hb6 x54
   have y60:=cl_kept hb6 y50
   have f60:=(hb6.frozen (p:=⟨w.heap.size+2,0,none⟩) z5).trans f50
   have y61:=cl_kept hb6 y51
   have f61:=(hb6.frozen (p:=⟨w.heap.size+2,1,none⟩) z5).trans f51
   have y62:=cl_kept hb6 y52
   have f62:=(hb6.frozen (p:=⟨w.heap.size+2,2,none⟩) z5).trans f52
   have y63:=cl_kept hb6 y53
   have f63:=(hb6.frozen (p:=⟨w.heap.size+2,3,none⟩) z5).trans f53
   have y64:=cl_kept hb6 y54
   have f64:=(hb6.frozen (p:=⟨w.heap.size+2,4,none⟩) z5).trans f54
   have y65:=cl_kept hb6 y55
   have f65:=(hb6.frozen (p:=⟨w.heap.size+2,5,none⟩) z5).trans f55
   have z6:=Nat.lt_of_lt_of_le z5 hb6.size
   clear x50 x51 x52 x53 x54 y50 f50 y51 f51 y52 f52 y53 f53 y54 f54 y55 f55
   have p60:=cl_kept hb6 p50
   have p61:=cl_kept hb6 p51
   have p62:=cl_kept hb6 p52
   have p63:=cl_kept hb6 p53
   have p64:=cl_kept hb6 p54
   clear p50 p51 p52 p53 p54
   have HB6:Hid (Below w.heap.size w w6∧Below w1.heap.size w1 w6∧Below w3.heap.size w3 w6):=⟨bl_via HB5.out.1 hb6,bl_via HB5.out.2.1 hb6,bl_via HB5.out.2.2 hb6⟩
   have HQ6:Hid (w6.cell? ⟨w3.heap.size,0,none⟩=some (.slice (some ⟨g,0,none⟩) nn nn)∧w6.cell? ⟨w.heap.size+1,0,none⟩=some (.slice (some ⟨gh,oh,none⟩) hn hc)):=⟨q60,x64⟩
   clear hb6 CT q50 q60 x64
   have CS:Hid (Calls Tryz.prog 33 #[.agg #[.slice ad nn cc,.map (some ra),.map (some rk),.slice (some ⟨gm,0,none⟩) nn cm,.slice pa nn pc],.agg #[.int .i64 W,.int .i64 H,.slice a m ca,.slice cb n ccap],.func (.func 32) #[] #[.pointer (some ⟨w.heap.size+1,0,none⟩),.pointer (some ⟨w3.heap.size,0,none⟩)]] w6 fun e w'=>StateTo w6 w' W H n nn zs ks M L (plcA (pls L M nn)) (hgt hs (lbs part nn)) e):=by
    have hPT:=HP.out.2.kept HB6.out.2.1
    have hlt:∀ i,i<L.length→part i<hs.length:=fun i hi=>by
     have e1:=topP_le (part:=part) hi
     have e2:=HN.out
     rw [HMX.out,HX.out.2.1,HX.out.2.2.1] at e2
     omega
    have hfs:∀ j∈lbs part L.length,j<hs.length:=fun j hj=>by
     obtain ⟨i,hi,rfl⟩:=List.mem_map.1 hj
     have e1:=hlt i (by simpa using hi)
     have e2:=HF.out.2.1.1 i (by simpa using hi)
     omega
    have:=state_any w6 W H a cb ca ccap n zs ks ad pa cc ra rk gm cm pc M L (pls L M L.length) (.func (.func 32) #[] #[.pointer (some ⟨w.heap.size+1,0,none⟩),.pointer (some ⟨w3.heap.size,0,none⟩)]) (hgt hs (lbs part L.length)) (HX.out.2.2.2.1.kept HB6.out.1) (HX.out.2.2.2.2.1.kept HB6.out.1) HX.out.2.2.2.2.2.2 HY.out.1 HY.out.2.1 HY.out.2.2.1 HY.out.2.2.2 (pls_len _ _ _) hPT.tr.1 hPT.pl hPT.mr HL.out.2.1.1 HL.out.2.2.2.1
     (fun V hV=>sortsN_of V L.length _ (hgt hs (lbs part L.length)) (fun W' hW' x y hx hy=>orderCompare_any W' (w.heap.size+1) w3.heap.size gh oh hc g 0 nn x y hs (lbs part L.length) ⟨by rw [← HX.out.2.2.1];exact cl_kept (bl_via hV hW') HQ6.out.2,by rw [lbs_len,← HX.out.2.1];exact cl_kept (bl_via hV hW') HQ6.out.1,HX.out.2.2.2.2.2.1.kept (bl_via HB6.out.1 (bl_via hV hW')),(zrow_nrow (by rw [← HX.out.2.1];exact HF.out.1) HF.out.2.1.1).kept (bl_via HB6.out.2.2 (bl_via hV hW'))⟩ (by rw [lbs_len];exact hx) (by rw [lbs_len];exact hy) hfs (by rw [lbs_len];exact HL.out.2.2.2.1) HH.out.2))
     (faces_dis HP.out.1 HL.out.2.1 HL.out.2.2.1 HL.out.2.2.2.1 HL.out.2.2.2.2 HF.out.2.1 hlt HD.out)
    rw [← HX.out.1,← HX.out.2.1] at this
    exact this
   go_wp2_with (go_at_call 33;refine CS.out.mono ?_;rintro e w7 ⟨a1,k1,a2,k2,g1,c1,t1,u1,Hp,rfl,hA1,hA2,hM1,hg1,hHp,hSR,hb7⟩;have HS7:Hid (RowF w7 w6.heap.size a1 zs∧RowF w7 w6.heap.size a2 ks∧MRow w7 g1 nn M∧w6.heap.size≤g1∧Heap nn (plcA (pls L M nn)) (hgt hs (lbs part nn)) Hp∧SRowF w7 w6.heap.size t1 (Hp.map fun s=>(s.1,tgn L s.2))∧Below w6.heap.size w6 w7):=⟨hA1,hA2,hM1,hg1,hHp,hSR,hb7⟩;have y70:=cl_kept hb7 y60;have f70:=(hb7.frozen (p:=⟨w.heap.size+2,0,none⟩) z6).trans f60;have y71:=cl_kept hb7 y61;have f71:=(hb7.frozen (p:=⟨w.heap.size+2,1,none⟩) z6).trans f61;have y72:=cl_kept hb7 y62;have f72:=(hb7.frozen (p:=⟨w.heap.size+2,2,none⟩) z6).trans f62;have y73:=cl_kept hb7 y63;have f73:=(hb7.frozen (p:=⟨w.heap.size+2,3,none⟩) z6).trans f63;have y74:=cl_kept hb7 y64;have f74:=(hb7.frozen (p:=⟨w.heap.size+2,4,none⟩) z6).trans f64;have y75:=cl_kept hb7 y65;have f75:=(hb7.frozen (p:=⟨w.heap.size+2,5,none⟩) z6).trans f65;have z7:=Nat.lt_of_lt_of_le z6 hb7.size;clear  y60 f60 y61 f61 y62 f62 y63 f63 y64 f64 y65 f65;clear hA1 hA2 hM1 hg1 hHp hSR hb7)
   refine bodyPost_ret (v:=.tuple #[.agg #[.int .i64 W,.int .i64 H,.slice a1 zs.length k1,.slice a2 n k2,.slice (some ⟨g1,0,none⟩) nn c1,.slice t1 Hp.length u1],.int .i64 0]) (by simp [results,Tryz.results7,go_sem, *]) rfl ⟨M,part,HP.out.1,HF.out.2.1, ?_,Or.inr (Or.inr ⟨?_,HD.out,_,rfl,a1,k1,a2,k2,g1,c1,t1,u1,Hp,rfl, ?_, ?_, ?_, ?_,HS7.out.2.2.2.2.1, ?_, ?_⟩)⟩
   ·with_reducible repeat' (first | exact bl_via HB6.out.1 HS7.out.2.2.2.2.2.2 | refine bl_set ?_ ?_ | refine bl_drew ?_ | refine bl_alloc ?_)
    all_goals (dsimp only;omega)
   ·rw [← HMX.out,← HX.out.2.2.1]
    exact HN.out
   ·refine RowF.low (base:=w6.heap.size) ?_ (by omega)
    with_reducible repeat (refine RowF.set ?_ (by dsimp only;omega))
    exact HS7.out.1
   ·refine RowF.low (base:=w6.heap.size) ?_ (by omega)
    with_reducible repeat (refine RowF.set ?_ (by dsimp only;omega))
    exact HS7.out.2.1
   ·have hg1:=HS7.out.2.2.2.1
    with_reducible repeat (refine MRow.set ?_ (by omega))
    exact HS7.out.2.2.1
   ·have hg1:=HS7.out.2.2.2.1
    omega
   ·refine SRowF.low (base:=w6.heap.size) ?_ (by omega)
    with_reducible repeat (refine SRowF.set ?_ (by dsimp only;omega))
    exact HS7.out.2.2.2.2.2.1
   ·with_reducible repeat' (first | exact bl_via HB6.out.1 HS7.out.2.2.2.2.2.2 | refine bl_set ?_ ?_ | refine bl_drew ?_ | refine bl_alloc ?_)
    all_goals (dsimp only;omega)
  ·have e0:decide (¬ hs.Nodup)=true:=by simp [hnd]
   rw [e0] at CT
   have HD:Hid (¬ hs.Nodup):=hnd
   clear e0 hnd
   go_upto_region 8 with (go_at_call 31;refine CT.out.mono ?_;rintro e w6 ⟨rfl,hb6⟩)
   have x60:=cl_kept hb6 x50
   have x61:=cl_kept hb6 x51
   have x62:=cl_kept hb6 x52
   have x63:=cl_kept hb6 x53
   have x64:=cl_kept hb6 x54
   have y60:=cl_kept hb6 y50
   have f60:=(hb6.frozen (p:=⟨w.heap.size+2,0,none⟩) z5).trans f50
   have y61:=cl_kept hb6 y51
   have f61:=(hb6.frozen (p:=⟨w.heap.size+2,1,none⟩) z5).trans f51
   have y62:=cl_kept hb6 y52
   have f62:=(hb6.frozen (p:=⟨w.heap.size+2,2,none⟩) z5).trans f52
   have y63:=cl_kept hb6 y53
   have f63:=(hb6.frozen (p:=⟨w.heap.size+2,3,none⟩) z5).trans f53
   have y64:=cl_kept hb6 y54
   have f64:=(hb6.frozen (p:=⟨w.heap.size+2,4,none⟩) z5).trans f54
   have y65:=cl_kept hb6 y55
   have f65:=(hb6.frozen (p:=⟨w.heap.size+2,5,none⟩) z5).trans f55
   have z6:=Nat.lt_of_lt_of_le z5 hb6.size
   clear x50 x51 x52 x53 x54 y50 f50 y51 f51 y52 f52 y53 f53 y54 f54 y55 f55
   have HB6:Hid (Below w.heap.size w w6):=bl_via HB5.out.1 hb6
   clear p50 p51 p52 p53 p54 x60 x61 x62 x63 x64 q50 hb6 CT
   go_wp2
   refine bodyPost_ret (v:=.tuple #[.agg #[.int .i64 0,.int .i64 0,.slice none 0 0,.slice none 0 0,.slice none 0 0,.slice none 0 0],.int .i64 6]) (by simp [results,Tryz.results7,go_sem, *]) rfl ⟨M,part,HP.out.1,HF.out.2.1, ?_,Or.inr (Or.inl ⟨?_,HD.out,rfl⟩)⟩
   ·with_reducible repeat' (first | exact HB6.out | refine bl_set ?_ ?_ | refine bl_drew ?_ | refine bl_alloc ?_)
    all_goals (dsimp only;omega)
   ·rw [← HMX.out,← HX.out.2.2.1]
    exact HN.out
 ·have HN:Hid (¬ (hn:Int)=mx+1):=hlen
  clear p50 p51 p52 p53 p54 x50 x51 x52 x53 x54 q50
  go_wp2
  refine bodyPost_ret (v:=.tuple #[.agg #[.int .i64 0,.int .i64 0,.slice none 0 0,.slice none 0 0,.slice none 0 0,.slice none 0 0],.int .i64 2]) (by simp [results,Tryz.results7,go_sem, *]) rfl ⟨M,part,HP.out.1,HF.out.2.1, ?_,Or.inl ⟨?_,rfl⟩⟩
  ·with_reducible repeat' (first | exact HB5.out.1 | refine bl_set ?_ ?_ | refine bl_drew ?_ | refine bl_alloc ?_)
   all_goals (dsimp only;omega)
  ·rw [← HMX.out,← HX.out.2.2.1]
   exact HN.out
end Go.Proofs.YtgpjaecgkkgehaaGreatDoor
namespace Go.Proofs.YtgpjaecgkkgehaaGreatDoor
open Go.RowKit Go.Shelf Go.Lib
theorem lay_any (W H b off cap n ccap hc:Nat) (cb ah:Option Addr) (zs ks hs:List Int) (w:World) (hr:Row w (some ⟨b,off,none⟩) zs) (hW:1≤W∧W≤8) (hH:1≤H∧H≤8) (hl:zs.length=W*H) (hm:maskB zs=true) (hk:Row w cb ks) (hn:ks.length=n*5) (hn2:n≤3518437208883) (hcb:cb=none∨∃ p off,cb=some ⟨p,off,none⟩) (hs0:Steps w) (hJ:Joined (ty zs W H)) (hC:∀ i,i<n→CrOk (ty zs W H) ks i) (hh:Row w ah hs) :
  Calls Tryz.prog 7 #[.agg #[.int .i64 (W:Int),.int .i64 (H:Int),.slice (some ⟨b,off,none⟩) zs.length cap,.slice cb n ccap],.slice ah hs.length hc] w fun e w'=>LaidTo w w' W H n (ty zs W H).length zs ks hs (ty zs W H) (kdn ks n) e∨((¬ ∃ N,Cons (kdn ks n) (ty zs W H) N)∧e=.returned (.tuple #[.agg #[.int .i64 0,.int .i64 0,.slice none 0 0,.slice none 0 0,.slice none 0 0,.slice none 0 0],.int .i64 8])∧Below w.heap.size w w'):=by
 have hP:∀ V:World,Below w.heap.size w V→Calls Tryz.prog 28 #[.agg #[.int .i64 (W:Int),.int .i64 (H:Int),.slice (some ⟨b,off,none⟩) zs.length cap,.slice cb n ccap]] V fun e w'=>PlacedTo (kdn ks n) (ty zs W H) V w' e:=fun V hV=>placed_yes W H b off cap n ccap cb zs ks V (hr.kept hV) hW hH hl hm (hk.kept hV) hn hn2 (hs0.kept hV) hJ hC
 have hlen:(ty zs W H).length≤300:=by have:=ty_len zs W H hW.2;omega
 have hz1:zs.length≤17592186044416:=by rw [hl];exact Nat.le_trans (Nat.mul_le_mul hW.2 hH.2) (by decide)
 by_cases hN:∃ N,Cons (kdn ks n) (ty zs W H) N
 ·refine (lay_flat w W H (some ⟨b,off,none⟩) cb ah zs.length cap n ccap hs.length hc (ty zs W H).length zs ks hs (ty zs W H) (kdn ks n) (fun V hV=>(hP V hV).mono ?_) rfl rfl rfl hr hk hh hn hz1 hn2 (Or.inr ⟨b,off,rfl⟩) hcb hs0 hJ (ty_nodup zs W H) hlen (ty_bd (zs:=zs) hW.2 hH.2)).mono fun e w' h=>Or.inl h
  rintro e w' ⟨hb,⟨M,ad,cc,ra,rk,gm,cm,pa,pc,hc,he,hp⟩ | ⟨h1,_⟩⟩
  ·exact ⟨M,ad,cc,ra,rk,gm,cm,pa,pc,hc,he,hp,hb⟩
  ·exact absurd hN h1
 ·refine (lay_tear w W H (some ⟨b,off,none⟩) cb ah zs.length cap n ccap hs.length hc (fun V hV=>(hP V hV).mono ?_)).mono fun e w' h=>Or.inr ⟨hN,h⟩
  rintro e w' ⟨hb,⟨M,ad,cc,ra,rk,gm,cm,pa,pc,hc,he,hp⟩ | ⟨_,h1⟩⟩
  ·exact absurd ⟨M,hc⟩ hN
  ·exact ⟨h1,hb⟩
open Go.RowKit Go.ChangeMaps
theorem mrow_eq {w:World} {g n:Nat} {M M':Nat→M6} (h:MRow w g n M) (e:∀ i,i<n→M i=M' i):MRow w g n M':=fun i hi=>by
 rw [← e i hi]
 exact h i hi
theorem hpN_same {pl:Nat→Int×Int×Int} {h h':Nat→Int} {n:Nat} (hd:∀ i j,i<n→j<n→pl i=pl j→i≠j→h i≠h j) (e:∀ j,j<n→h j=h' j):hpN pl h n=hpN pl h' n :=
 (heap_congr (heap_hpN n hd) (fun _ _=>rfl) e).one (heap_hpN n (fun i j hi hj e1 e2 e3=>hd i j hi hj e1 e2 (by rw [e i hi,e j hj];exact e3)))
theorem plcA_mvP {L:List (Int×Int×Int)} {M:Nat→M6} {n j:Nat} (hj:j<n):plcA (pls L M n) j=mvP L M j:=by
 unfold plcA pls mvP tg
 rw [List.getD_eq_getElem?_getD (l:=List.map _ _)]
 simp [hj]
theorem hgt_at {hs:List Int} {part:Nat→Int} {n j:Nat} (hj:j<n):hgt hs (lbs part n) j=hs.getD (part j).toNat 0:=by
 unfold hgt
 rw [lbs_at hj]
def hOf (hs:List Int) (part:Nat→Int) (j:Nat):Int:=hs.getD (part j).toNat 0
def stS (L:List (Int×Int×Int)) (M:Nat→M6) (h:Nat→Int):List ((Int×Int×Int)×List (Int×Int×Int)):=trS L (hpN (mvP L M) h L.length)
theorem stS_len (L:List (Int×Int×Int)) (M:Nat→M6) (h:Nat→Int):(stS L M h).length≤L.length:=by
 unfold stS trS
 rw [List.length_map]
 exact hpN_len _ _ _
theorem stS_lens (L:List (Int×Int×Int)) (M:Nat→M6) (h:Nat→Int):∀ s∈stS L M h,s.2.length≤L.length:=fun s hs=>by
 unfold stS trS at hs
 obtain ⟨x,hx,rfl⟩:=List.mem_map.1 hs
 dsimp only
 rw [List.length_map]
 exact hpN_lens _ _ _ x hx
theorem laid_state {w w':World} {W H:Int} {n:Nat} {zs ks hs:List Int} {L:List (Int×Int×Int)} {M M0:Nat→M6} {part p0:Nat→Int} {v:Value} (hM:∀ i,i<L.length→M i=M0 i) (hp:∀ i,i<L.length→part i=p0 i) (hd:∀ i j,i<L.length→j<L.length→mvP L M0 i=mvP L M0 j→i≠j→hOf hs p0 i≠hOf hs p0 j)
  (h:StateTo w w' W H n L.length zs ks M L (plcA (pls L M L.length)) (hgt hs (lbs part L.length)) (.returned v)):HeapF w w' W H zs.length n L.length zs ks M0 (stS L M0 (hOf hs p0)) (.returned v):=by
 obtain ⟨a,ca,b,cb,g,c,t,u,Hp,he,r1,r2,r3,r4,hH,hS,hb⟩:=h
 have h1:Heap L.length (mvP L M0) (hOf hs p0) Hp:=heap_congr hH (fun j hj=>by
  rw [plcA_mvP hj]
  unfold mvP
  rw [hM j hj]) (fun j hj=>by
  rw [hgt_at hj,hp j hj]
  rfl)
 have h2:=h1.one (heap_hpN L.length hd)
 subst h2
 have e:(hpN (mvP L M0) (hOf hs p0) L.length).map (fun s=>(s.1,tgn L s.2))=stS L M0 (hOf hs p0):=rfl
 have e2:(hpN (mvP L M0) (hOf hs p0) L.length).length=(stS L M0 (hOf hs p0)).length:=by
  unfold stS trS
  rw [List.length_map]
 rw [e] at hS
 rw [e2] at he
 exact ⟨a,ca,b,cb,g,c,t,u,he,r1,r2,⟨mrow_eq r3 hM,r4⟩,hS,hb⟩
open Go.RowKit Go.ChangeMaps
theorem mvt_id {t:Int×Int×Int} (h:Kd t):mvt idM t=t:=by
 obtain ⟨x,y,k⟩:=t
 obtain ⟨h1,h2⟩:=h
 dsimp only at h1 h2
 have hk:k=0∨k=1∨k=2∨k=3:=by omega
 have e1:(1*(2*x+1)+0*(2*y+1)+0 - 1) / 2=x:=by omega
 have e2:(0*(2*x+1)+1*(2*y+1)+0 - 1) / 2=y:=by omega
 unfold mvt idM
 dsimp only
 rw [e1,e2]
 rcases hk with rfl | rfl | rfl | rfl <;> rfl
theorem flat_dis {L:List (Int×Int×Int)} (hnd:L.Nodup) (hk:∀ t∈L,Kd t):∀ i j,i<L.length→j<L.length→mvP L (fun _=>idM) i=mvP L (fun _=>idM) j→i≠j→False:=fun i j hi hj e hne=>by
 have q:∀ k (h:k<L.length),mvP L (fun _=>idM) k=L[k]:=fun k h=>by
  have e:tg L k=L[k]:=by
   unfold tg
   rw [List.getD_eq_getElem?_getD,List.getElem?_eq_getElem h]
   rfl
  unfold mvP
  rw [e,mvt_id (hk _ (List.getElem_mem h))]
 rw [q i hi,q j hj] at e
 exact hne (nodup_atH hnd hi hj e)
theorem flat_cons (ks:List Int) (L:List (Int×Int×Int)):Cons (kdn ks 0) L (fun _=>idM):=⟨rfl,fun i j hi hj e _ _ _=>by simp [farM,kdn]⟩
theorem flat_parts {ks:List Int} {L:List (Int×Int×Int)} {part:Nat→Int} (hJ:Joined L) (hnd:L.Nodup) (hP:PartsOk (fun e=>decide (kdn ks 0 e=0)) L part):∀ i,i<L.length→part i=0:=by
 have h0:part 0=0:=by
  have h1:=hP.1 0 hJ.1
  refine Classical.byContradiction fun hne=>?_
  obtain ⟨b,hb,_⟩:=hP.2.2.2 0 hJ.1 0 (by omega) (by omega)
  omega
 exact closed_all hJ hnd (fun i=>part i=0) h0 (fun i j hi hj hs ha=>by
  obtain ⟨h1,e,h2,h3⟩:=ha
  rw [hP.2.1 i j hi hj ⟨h1,e,h2,h3,by simp [kdn]⟩]
  exact hs)
theorem foldFlat_any (W H:Int) (a c:Option Addr) (ca cc n:Nat) (zs ks:List Int) (w:World) (hz:Row w a zs) (hk:Row w c ks) (hn:ks.length=n*5) (h1:zs.length≤17592186044416) (h2:n≤3518437208883) (hs0:Steps w) :
  Calls Tryz.prog 4 #[.agg #[.int .i64 W,.int .i64 H,.slice a zs.length ca,.slice c n cc]] w fun e w'=>e=.returned (.bool true)∧Below w.heap.size w w':=by
 have CS:Hid (∀ V:World,Below w.heap.size w V→Calls Tryz.prog 8 #[.agg #[.int .i64 W,.int .i64 H,.slice a zs.length ca,.slice c n cc]] V fun e w'=>∃ a' ca' b' cb',e=.returned (.agg #[.int .i64 W,.int .i64 H,.slice a' zs.length ca',.slice b' n cb'])∧Row w' a' zs∧Row w' b' ks∧(b'=none∨∃ p o,b'=some ⟨p,o,none⟩)∧Below V.heap.size V w'):=fun V hV=>(sheetOf_form W H a c ca cc n zs ks V (hz.kept hV) (hk.kept hV) hn h1 h2).mono fun e w' ⟨a',ca',b',cb',he,r1,r2,hb,hf⟩=>⟨a',ca',b',cb',he,r1.row,r2.row,hf,hb⟩
 rcases sheet_either W H a c ca cc n zs ks w hz hk hn h2 hs0 with ⟨q1,q2⟩ | ⟨Wn,Hn,b,off,rfl,rfl,rfl,hW,hH,hl,hm,hJ,hC,hMay⟩
 ·refine foldFlat_no W H a c zs.length ca n cc zs ks w CS (fun V a' b' ca' cb' hV r1 r2 _=>?_) q2
  have C7:∀ (V2:World) (g:Nat),Below V.heap.size V V2→Row V2 (some ⟨g,0,none⟩) [0]→Calls Tryz.prog 7 #[.agg #[.int .i64 W,.int .i64 H,.slice a' zs.length ca',.slice b' n cb'],.slice (some ⟨g,0,none⟩) 1 1] V2 fun e w'=>e=.returned (.tuple #[.agg #[.int .i64 0,.int .i64 0,.slice none 0 0,.slice none 0 0,.slice none 0 0,.slice none 0 0],.int .i64 10])∧Below V2.heap.size V2 w':=fun V2 g hV2 _=>lay_none V2 W H a' b' (some ⟨g,0,none⟩) zs.length ca' n cb' 1 1 (fun V3 hV3=>placed_none V3 W H a' b' zs.length ca' n cb' (fun V4 hV4=>Place_no W H a' b' zs.length n ca' cb' V4 (fun V5 hV5=>q1 V5 a' b' ca' cb' (bl_via hV (bl_via hV2 (bl_via hV3 (bl_via hV4 hV5)))) (r1.kept (bl_via hV2 (bl_via hV3 (bl_via hV4 hV5)))) (r2.kept (bl_via hV2 (bl_via hV3 (bl_via hV4 hV5)))))))
  by_cases h0:n=0
  ·exact flat_no0 W H a' b' zs.length ca' n cb' V h0 C7
  ·refine flat_no1 W H a' b' zs.length ca' n cb' V (by omega) C7 (fun V2 hV2=>may49 W H a' b' zs.length ca' n cb' V2 false (fun V3 hV3=>(q1 V3 a' b' ca' cb' (bl_via hV (bl_via hV2 hV3)) (r1.kept (bl_via hV2 hV3)) (r2.kept (bl_via hV2 hV3))).mono fun e w' ⟨he,hb⟩=>⟨none,0,0,none,none,he,hb⟩))
 ·have hz0:0<zs.length:=by
   rw [hl]
   exact Nat.mul_pos (by omega) (by omega)
  by_cases h0:n=0
  ·subst h0
   have LA:∀ (V:World) (a' b' a3:Option Addr) (ca' cb' c3:Nat),Below w.heap.size w V→Row V a' zs→Row V b' ks→(b'=none∨∃ p o,b'=some ⟨p,o,none⟩)→Row V a3 [0]→Calls Tryz.prog 7 #[.agg #[.int .i64 (Wn:Int),.int .i64 (Hn:Int),.slice a' zs.length ca',.slice b' 0 cb'],.slice a3 1 c3] V fun e w'=>LaidTo V w' Wn Hn 0 (ty zs Wn Hn).length zs ks [0] (ty zs Wn Hn) (kdn ks 0) e∨((¬ ∃ N,Cons (kdn ks 0) (ty zs Wn Hn) N)∧e=.returned (.tuple #[.agg #[.int .i64 0,.int .i64 0,.slice none 0 0,.slice none 0 0,.slice none 0 0,.slice none 0 0],.int .i64 8])∧Below V.heap.size V w'):=fun V a' b' a3 ca' cb' c3 hV r1 r2 hf r3=>by
    obtain ⟨ba,oa,rfl,_⟩:=r1 0 hz0
    exact lay_any Wn Hn ba oa ca' 0 cb' c3 b' a3 zs ks [0] V r1 hW hH hl hm r2 hn h2 hf (hs0.kept hV) hJ hC r3
   have LT:∀ V:World,Below w.heap.size w V→Calls Tryz.prog 38 #[.agg #[.int .i64 (Wn:Int),.int .i64 (Hn:Int),.slice (some ⟨b,off,none⟩) zs.length ca,.slice c 0 cc]] V fun e w'=>∃ a c,e=.returned (.slice a (ty zs Wn Hn).length c)∧TRow w' a (ty zs Wn Hn)∧Below V.heap.size V w':=fun V hV=>(trisOf_any Wn Hn b off ca zs (.slice c 0 cc) V (hz.kept hV) hW hH hl hm).mono fun e w' ⟨v,he,ho,hb⟩=>by
    obtain ⟨a9,c9,rfl,hT⟩:=own_tris ho
    exact ⟨a9,c9,he,hT,hb⟩
   have LO:∀ V:World,Below w.heap.size w V→Calls Tryz.prog 8 #[.agg #[.int .i64 (Wn:Int),.int .i64 (Hn:Int),.slice (some ⟨b,off,none⟩) zs.length ca,.slice c 0 cc]] V fun e w'=>∃ a' ca' b' cb',e=.returned (.agg #[.int .i64 (Wn:Int),.int .i64 (Hn:Int),.slice a' zs.length ca',.slice b' 0 cb'])∧RowF w' V.heap.size a' zs∧RowF w' V.heap.size b' ks∧Below V.heap.size V w':=fun V hV=>sheetOf_any Wn Hn (some ⟨b,off,none⟩) c ca cc 0 zs ks V (hz.kept hV) (hk.kept hV) hn h1 h2
   have hlen:(ty zs Wn Hn).length≤256:=by have:=ty_len zs Wn Hn hW.2;omega
   have hnd:=ty_nodup zs Wn Hn
   have hbd:=ty_bd (zs:=zs) hW.2 hH.2
   have hkd:∀ t∈ty zs Wn Hn,Kd t:=fun t ht=>(hbd t ht).2.2
   have h0:0<(ty zs Wn Hn).length:=hJ.1
   obtain ⟨L,hL⟩:∃ L,L=ty zs Wn Hn:=⟨_,rfl⟩
   rw [← hL] at LA LT hlen hnd hbd hkd h0 hJ
   have hd:∀ i j,i<L.length→j<L.length→mvP L (fun _=>idM) i=mvP L (fun _=>idM) j→i≠j→hOf [0] (fun _=>0) i≠hOf [0] (fun _=>0) j:=fun i j hi hj e hne=>(flat_dis hnd hkd i j hi hj e hne).elim
   refine foldFlat_ok (Wn:Int) (Hn:Int) (some ⟨b,off,none⟩) c zs.length ca cc L.length (stS L (fun _=>idM) (hOf [0] fun _=>0)).length zs ks (fun _=>idM) (stS L (fun _=>idM) (hOf [0] fun _=>0)) w CS (fun V a' b' ca' cb' hV r1 r2 hf=>?_) hMay (fun V hV=>?_) (fun V a1 b1 a2 b2 t1 t2 ca1 cb1 g1 c1 u1 ca2 cb2 g2 c2 u2 ⟨x1,x2,x3,x4⟩ ⟨y1,y2,y3,y4⟩=>?_)
   ·refine (flat_ok (Wn:Int) (Hn:Int) a' b' zs.length ca' cb' L.length zs ks (fun _=>idM) (stS L (fun _=>idM) (hOf [0] fun _=>0)) V (fun V2 g hV2 r3=>(LA V2 a' b' (some ⟨g,0,none⟩) ca' cb' 1 (bl_via hV hV2) (r1.kept hV2) (r2.kept hV2) hf r3).mono fun e w' h=>?_)).mono fun e w' h=>?_
    ·rcases h with ⟨M,part,hc9,hp9,hb9,h⟩ | ⟨hno,_⟩
     ·have e1:=flat_parts hJ hnd hp9
      obtain ⟨i,hi,ei⟩:=topP_at (part:=part) h0
      have e2:=e1 i hi
      rcases h with ⟨h,_⟩ | ⟨_,h,_⟩ | ⟨_,_,v,he,hST⟩
      ·exact absurd (by simp;omega) h
      ·exact absurd (by simp) h
      ·exact ⟨v,he,laid_state (cons_one hJ hnd hc9 (flat_cons ks L)) e1 hd hST⟩
     ·exact absurd ⟨_,flat_cons ks L⟩ hno
    ·obtain ⟨v,he,a9,ca9,b9,cb9,g9,c9,t9,u9,hv,r1,r2,⟨r3,_⟩,r4,hb⟩:=h
     cases hv
     exact ⟨a9,ca9,b9,cb9,g9,c9,t9,u9,he,r1.row,r2.row,r3,r4.row,hb⟩
   ·refine (flatOf_any Wn Hn b off ca zs.length 0 cc L.length c zs ks L V (fun V2 hV2=>LT V2 (bl_via hV hV2)) (fun V2 hV2=>LO V2 (bl_via hV hV2)) rfl h0 hlen hbd hnd).mono fun e w' h=>?_
    obtain ⟨a9,ca9,b9,cb9,g9,c9,t9,u9,he,r1,r2,⟨r3,_⟩,r4,hb⟩:=h
    have e5:trS L (hpN (mvP L (fun _=>idM)) (hvs ((List.range L.length).map fun _=>0)) L.length)=stS L (fun _=>idM) (hOf [0] fun _=>0):=by
     unfold stS
     rw [hpN_same (h':=hOf [0] fun _=>0) (fun i j hi hj e1 e2 _=>flat_dis hnd hkd i j hi hj e1 e2) (fun j hj=>by rw [hvs_range _ hj];rfl)]
    rw [e5] at he r4
    exact ⟨a9,ca9,b9,cb9,g9,c9,t9,u9,he,r1.row,r2.row,r3,r4.row,hb⟩
   ·exact sameState_yes (Wn:Int) (Hn:Int) a1 a2 b1 b2 ca1 ca2 cb1 cb2 0 g1 g2 c1 c2 L.length u1 u2 t1 t2 zs ks (fun _=>idM) (stS L (fun _=>idM) (hOf [0] fun _=>0)) V x1 y1 x2 y2 hn h1 h2 x3 y3 (by omega) x4 y4 (Nat.le_trans (stS_len _ _ _) (by omega)) (fun s hs9=>Nat.le_trans (stS_lens _ _ _ s hs9) (by omega))
  ·refine foldFlat_kind (Wn:Int) (Hn:Int) (some ⟨b,off,none⟩) c zs.length ca n cc zs ks w (by omega) CS (fun V a' b' ca' cb' hV r1 r2 _=>?_) hMay
   refine flat_kind (Wn:Int) (Hn:Int) a' b' zs.length ca' n cb' V (by omega) (fun V2 hV2=>may49 (Wn:Int) (Hn:Int) a' b' zs.length ca' n cb' V2 true (fun V3 hV3=>?_))
   obtain ⟨ba,oa,rfl,_⟩:=r1 0 hz0
   exact (lay_yes Wn Hn ba oa ca' n cb' b' zs ks V3 (r1.kept (bl_via hV2 hV3)) hW hH hl hm (r2.kept (bl_via hV2 hV3)) hn h2 (hs0.kept (bl_via hV (bl_via hV2 hV3))) hJ hC).mono fun e w' ⟨ad,cc9,base,ra,rk,he,hpk⟩=>⟨ad,_,cc9,some ra,some rk,he,hpk.2.2.2.2⟩
end Go.Proofs.YtgpjaecgkkgehaaGreatDoor
