/- A part of the proof of foldFlat_holds. -/
import Derived.Test.YtgpjaecgkkgehaaGreatDoorQfbr
import Derived.Test.YtgpjaecgkkgehaaGreatDoorQfbg
import Derived.Test.YtgpjaecgkkgehaaGreatDoorQfbk
import Derived.Test.YtgpjaecgkkgehaaGreatDoorQfaz
import Derived.Test.YtgpjaecgkkgehaaGreatDoorQfaw
import Derived.Test.YtgpjaecgkkgehaaGreatDoorQfab
namespace Go.Proofs
open Go.Shelf
def Tryz.blen_ren:Go.Shelf.Ren:=⟨fun | 15=>140 | 28=>171 | 29=>172 | n=>n,fun | 39=>182 | 3=>3 | 53=>210 | 55=>213 | 4=>4 | 5=>5 | 9=>9 | n=>n,fun | n=>n⟩
theorem Tryz.blen:Go.Proofs.SlLaysF0.n15 Tryz.prog Tryz.blen_ren:={
 mixed:=by kernel_rfl
 f15:=Tryz.func140.trans (congrArg some (by kernel_rfl))
 f28:=Tryz.func171.trans (congrArg some (by kernel_rfl))
 f29:=Tryz.func172.trans (congrArg some (by kernel_rfl))
 t3:=Tryz.underlying3
 a3:=Tryz.isAgg3
 z3:=Tryz.sizeOf3
 v3:=Tryz.zeroValue3
 t4:=Tryz.underlying4
 a4:=Tryz.isAgg4
 z4:=Tryz.sizeOf4
 v4:=Tryz.zeroValue4
 t5:=Tryz.underlying5
 a5:=Tryz.isAgg5
 z5:=Tryz.sizeOf5
 v5:=Tryz.zeroValue5
 t9:=Tryz.underlying9
 a9:=Tryz.isAgg9
 z9:=Tryz.sizeOf9
 v9:=Tryz.zeroValue9
 t39:=Tryz.underlying182
 a39:=Tryz.isAgg182
 z39:=Tryz.sizeOf182
 v39:=Tryz.zeroValue182
 t53:=Tryz.underlying210
 a53:=Tryz.isAgg210
 z53:=Tryz.sizeOf210
 v53:=Tryz.zeroValue210
 t55:=Tryz.underlying213
 a55:=Tryz.isAgg213
 z55:=Tryz.sizeOf213
 v55:=Tryz.zeroValue213 }
end Go.Proofs
namespace Go.Proofs.YtgpjaecgkkgehaaGreatDoor
open Go.RowKit
set_option maxRecDepth 100000 in
theorem sortNums_any (w:World) (g o n cap N:Nat) (rv:Value) (cf:Nat→Nat→Int) (hc:CmpF w g N rv cf) (hO:Sort.SWO (ltF cf)) (d:Array Nat) (hd:d.size=n) (hN:∀ k,k<d.size→d[k]! < N) (hn:n≤300) (hw:SrtW w w g o d) :
  Calls Tryz.prog 110 #[.slice (some ⟨g,o,none⟩) n cap,.func (.func 111) #[rv] #[]] w fun e w'=>e=.returned (.tuple #[])∧∃ d',Sort.PermIn 0 n d d'∧Sort.SortedIn (ltF cf) 0 n d'∧SrtW w w' g o d':=by
 have hlim:Lib.bitLen n≤62:=Lib.bitLen_le n 62 (by omega) (by omega)
 have hl:Calls Tryz.prog 140 #[.int .u64 (n:Int)] w fun e w'=>e=.returned (.int .i64 (Lib.bitLen n:Nat))∧w'=w:=by
  have h:=Any.bits_Len (SlLaysF0.n15.bits (P:=Tryz.prog) (ρ:=Tryz.blen_ren) Tryz.blen) (n:Int) w (by omega) (by omega)
  rw [Int.toNat_natCast] at h
  exact h
 obtain ⟨lm,hlm⟩:∃ lm,lm=Lib.bitLen n:=⟨_,rfl⟩
 rw [← hlm] at hl hlim
 have HL:Hid (Calls Tryz.prog 140 #[.int .u64 (n:Int)] w fun e w'=>e=.returned (.int .i64 (lm:Int))∧w'=w):=hl
 have HP:Hid (Calls Tryz.prog 144 #[.slice (some ⟨g,o,none⟩) n cap,.int .i64 0,.int .i64 (n:Int),.int .i64 (lm:Int),.func (.func 111) #[rv] #[]] w fun e w'=>e=.returned (.tuple #[])∧SrtW w w' g o (Sort.pdq (ltF cf) d 0 n lm true true)):=by
  have:=pdq_any w g o n cap N rv cf hc hO hn (n+1) 0 n lm d w (by omega) hd hw (by omega) (by omega) (by omega) hN (Or.inl rfl)
  exact this
 have hs:=Sort.pdq_sorts (ltF cf) hO d 0 n lm true true (by omega) (by omega) (Or.inl rfl)
 obtain ⟨d',hd'⟩:∃ d',d'=Sort.pdq (ltF cf) d 0 n lm true true:=⟨_,rfl⟩
 rw [← hd'] at HP hs
 have HS:Hid (Sort.PermIn 0 n d d'∧Sort.SortedIn (ltF cf) 0 n d'):=hs
 have wr:IntKind.u64.wrap (n:Int)=(n:Int):=by simp [IntKind.wrap,IntKind.bits,IntKind.signed];omega
 clear hs hd' hlm hl hw hc hO hN hd
 go_enter Tryz.func110,Tryz.ntmps110
 go_wp2_with (first | (go_at_call 140;refine HL.out.mono ?_;rintro e w1 ⟨rfl,hw1⟩;have hw3:=hw1.symm;clear hw1;subst hw3) | (go_at_call 144;refine HP.out.mono ?_;rintro e w2 ⟨rfl,hw2⟩;have HW2:Hid (SrtW w w2 g o d'):=hw2;clear hw2))
 go_end0
 exact ⟨rfl,d',HS.out.1,HS.out.2,HW2.out⟩
theorem ltF_key (h:Nat→Int):ltF (fun x y=>cmp3 (h x) (h y))=fun x y=>decide (h x<h y):=by
 funext x y
 unfold ltF cmp3
 by_cases q:h x<h y
 ·simp [q]
 ·by_cases q2:h y<h x
  ·simp [q,q2]
  ·simp [q,q2]
theorem sortsN_of (w:World) (N:Nat) (rv:Value) (h:Nat→Int) (hc:∀ W:World,Below w.heap.size w W→∀ x y:Nat,x<N→y<N→Calls Tryz.prog 111 #[rv,.int .i64 (x:Int),.int .i64 (y:Int)] W fun e w'=>e=.returned (.int .i64 (cmp3 (h x) (h y)))∧Below W.heap.size W w'):SortsN w N rv h:=by
 intro W g cap R hb hg hne hlen hR hN
 have hcf:CmpF W g N rv (fun x y=>cmp3 (h x) (h y)):=fun wx hgr x y hx hy=>hc wx (hb.grown hgr hb.size (fun r e=>by cases e;exact hg)) x y hx hy
 have hSO:Sort.SWO (ltF (fun x y=>cmp3 (h x) (h y))):=by rw [ltF_key];exact swo_key h
 have hlt:g<W.heap.size:=World.block_lt_of_cell? _ _ (hN 0 (List.length_pos_iff.2 hne)).1
 have hS:SrtW W W g 0 R.toArray:=⟨fun j hj=>by
  have hj2:j<R.length:=by simpa using hj
  obtain ⟨c1,c2⟩:=hN j hj2
  rw [Nat.zero_add,getElem!_pos _ j hj]
  simp only [List.getElem_toArray]
  exact ⟨c1,c2⟩,⟨rfl,rfl,rfl,Nat.le_refl _,fun _ _ _=>rfl⟩,hlt⟩
 refine (sortNums_any W g 0 R.length cap N rv _ hcf hSO R.toArray (by simp) (fun k hk=>by
  rw [getElem!_pos _ k hk]
  simp only [List.getElem_toArray]
  exact hR _ (List.getElem_mem _)) hlen hS).mono ?_
 rintro e w' ⟨rfl,d',hp,hs,hw⟩
 have hsz:d'.size=R.length:=by simpa using hp.1
 refine ⟨rfl,d'.toList, ?_, ?_, ?_,hw.gr⟩
 ·have h3:=hp.2.2
  have e1:(d'.extract 0 R.length).toList=d'.toList:=by
   rw [← hsz]
   simp
  have e2:(R.toArray.extract 0 R.length).toList=R:=by simp
  rw [e1,e2] at h3
  exact h3
 ·unfold Upw
  rw [List.pairwise_iff_getElem]
  intro i j hi hj hij
  have:=hs i j (Nat.zero_le _) hij (by simpa [hsz] using hj)
  have hi2:i<d'.size:=by simpa using hi
  have hj2:j<d'.size:=by simpa using hj
  rw [getElem!_pos d' i hi2,getElem!_pos d' j hj2,ltF_key,decide_eq_false_iff_not] at this
  simpa using this
 ·intro i hi
  have hi2:i<d'.size:=by simpa using hi
  obtain ⟨c1,c2⟩:=hw.row i hi2
  rw [Nat.zero_add,getElem!_pos d' i hi2] at c1
  rw [Nat.zero_add] at c2
  exact ⟨by simpa using c1,c2⟩
open Go.RowKit
theorem nodup_at {α:Type} {l:List α} (h:l.Nodup) {i j:Nat} (hi:i<l.length) (hj:j<l.length) (e:l[i]=l[j]):i=j:=by
 have hp:=List.pairwise_iff_getElem.1 h
 rcases Nat.lt_trichotomy i j with q | q | q
 ·exact absurd e (hp i j hi hj q)
 ·exact q
 ·exact absurd e.symm (hp j i hj hi q)
theorem face_map {kd:Int×Int×Int×Int→Int} {L:List (Int×Int×Int)} {M:Nat→M6} (hC:Cons kd L M) (hnd:L.Nodup) {t u:Int×Int×Int} (h:ReachC (fun e=>decide (kd e=0)) L t u):∀ i j (hi:i<L.length) (hj:j<L.length),L[i]=t→L[j]=u→M i=M j:=by
 induction h using ReachC.ind with
 | here h =>
  intro i j hi hj e1 e2
  have:=nodup_at hnd hi hj (e1.trans e2.symm)
  rw [this]
 | @step u v hr hv ha ih =>
  intro i j hi hj e1 e2
  obtain ⟨k,hk,ek⟩:=List.getElem_of_mem hr.mem.2
  have h1:=ih i k hi hk e1 ek
  obtain ⟨hne,e,he1,he2,he3⟩:=ha
  have hkj:k≠j:=fun q=>hne (by subst q;rw [← e2,ek])
  have h2:=hC.2 k j hk hj e hkj (by rw [ek];exact he1) (by rw [e2];exact he2)
  have hz:kd e=0:=by simpa using he3
  rw [h2,farM,if_pos hz]
  exact h1
def lbs (part:Nat→Int) (n:Nat):List Nat:=(List.range n).map fun i=>(part i).toNat
theorem lbs_len (part:Nat→Int) (n:Nat):(lbs part n).length=n:=by simp [lbs]
theorem lbs_at {part:Nat→Int} {n i:Nat} (hi:i<n):(lbs part n).getD i 0=(part i).toNat:=by
 rw [List.getD_eq_getElem?_getD]
 simp [lbs,hi]
theorem faces_dis {kd:Int×Int×Int×Int→Int} {L:List (Int×Int×Int)} {M:Nat→M6} {part:Nat→Int} {hs:List Int} (hC:Cons kd L M) (hJ:Joined L) (hnd:L.Nodup) (hL:L.length≤300) (hbd:∀ t∈L,(0≤t.1∧t.1≤8)∧(0≤t.2.1∧t.2.1≤8)∧(0≤t.2.2∧t.2.2≤3)) (hP:PartsOk (fun e=>decide (kd e=0)) L part) (hlt:∀ i,i<L.length→part i<hs.length) (hN:hs.Nodup) :
  ∀ i j,i<(pls L M L.length).length→j<(pls L M L.length).length→(pls L M L.length).getD i (0,0,0)=(pls L M L.length).getD j (0,0,0)→i≠j→hgt hs (lbs part L.length) i≠hgt hs (lbs part L.length) j:=by
 intro i j hi hj he hne hh
 rw [pls_len] at hi hj
 have p1:=hP.1 i hi
 have p2:=hP.1 j hj
 have l1:=hlt i hi
 have l2:=hlt j hj
 have hpp:part i=part j:=by
  unfold hgt at hh
  rw [lbs_at hi,lbs_at hj] at hh
  have q1:(part i).toNat<hs.length:=by omega
  have q2:(part j).toNat<hs.length:=by omega
  rw [List.getD_eq_getElem?_getD,List.getD_eq_getElem?_getD,List.getElem?_eq_getElem q1,List.getElem?_eq_getElem q2] at hh
  have:=nodup_at hN q1 q2 (by simpa using hh)
  omega
 have hr:=hP.2.2.1 i j hi hj hpp
 have hM:=face_map hC hnd hr i j hi hj rfl rfl
 have hg:=cons_good hJ hnd hL hbd hC i hi
 have e1:(pls L M L.length).getD i (0,0,0)=mvt (M i) L[i]:=by
  rw [List.getD_eq_getElem?_getD]
  simp [pls,hi]
 have e2:(pls L M L.length).getD j (0,0,0)=mvt (M j) L[j]:=by
  rw [List.getD_eq_getElem?_getD]
  simp [pls,hj]
 rw [e1,e2,← hM] at he
 have:=mvt_inj hg.1 (hbd L[i] (List.getElem_mem hi)).2.2 (hbd L[j] (List.getElem_mem hj)).2.2 he
 exact hne (nodup_at hnd hi hj this)
end Go.Proofs.YtgpjaecgkkgehaaGreatDoor
namespace Go.Proofs.YtgpjaecgkkgehaaGreatDoor
open Go.RowKit Go.Shelf Go.ChangeMaps
attribute [local go_sem] Oper.semAt_some
set_option maxRecDepth 100000 in
set_option maxHeartbeats 1600000 in
theorem valuesI_in (Bs l m m' c:Nat) (a:Option Addr) (zs:List Int) (hz:zs.length≤17592186044416) (J:Nat→World→Prop) (hD:∀ {k W},J k W→W.cell? ⟨Bs,0,none⟩=some (.slice a zs.length c)∧Row W a zs) (hY:∀ {k W} (hk:k<zs.length),J k W→YieldAt .wide m Tryz.prog l #[.int .i64 zs[k]] W fun e W'=>e=.returned (.bool true)∧J (k+1) W')
  (W:World) (h0:J 0 W):CallsIn .wide m' Tryz.prog 106 #[.func (.yield l) #[] #[],.pointer (some ⟨Bs,0,none⟩)] W fun e W'=>(∃ v,e=.returned v)∧J zs.length W':=by
 refine callsIn_of_wp Tryz.func106 rfl trivial ?_ rfl
 simp only [Tryz.ntmps106,List.size_toArray,List.length_cons,List.length_nil,Nat.reduceAdd,Nat.reduceSub,Array.replicate_succ,Array.replicate_zero,List.push_toArray,List.append_toArray,List.nil_append,List.cons_append]
 obtain ⟨hd0,_⟩:=hD h0
 have HD:Hid (∀ k W,J k W→W.cell? ⟨Bs,0,none⟩=some (.slice a zs.length c)∧Row W a zs):=fun _ _ h=>hD h
 have HY:Hid (∀ k W (hk:k<zs.length),J k W→YieldAt .wide m Tryz.prog l #[.int .i64 zs[k]] W fun e W'=>e=.returned (.bool true)∧J (k+1) W'):=fun _ _ h1 h2=>hY h1 h2
 have HJ:Hid (J 0 W):=h0
 clear hD hY h0
 gi_wp2
 clear hd0
 gi_loopg [7] zs.length (fun gk s7 wx=>∃ k:Nat,k≤zs.length∧gk=zs.length - k∧s7=.int .i64 (k:Int)∧J k wx)
 case atStart=>exact ⟨0,by omega,rfl,rfl,HJ.out⟩
 case round =>
  clear HJ
  obtain ⟨k,hk,rfl,rfl,hJ⟩:=hrel
  have HJ:Hid (J k wr):=hJ
  clear hJ
  by_cases h1:k<zs.length
  ·have i1:(k:Int)<(zs.length:Int):=by omega
   have i0:(0:Int)≤(k:Int):=by omega
   obtain ⟨b,off,rfl,hc⟩:=(HD.out k wr HJ.out).2 k h1
   obtain ⟨z,hzz⟩:∃ z,z=zs[k]:=⟨_,rfl⟩
   have hyy:=HY.out k wr h1 HJ.out
   rw [← hzz] at hc hyy
   obtain ⟨fn,tmps,assign,body,hy,hR⟩:=hyy
   clear hzz
   gi_wp2
   refine ⟨fun h=>(by cases h),(RoundIn_any hR).mono ?_⟩
   rintro e W4 ⟨rfl,hJ4⟩
   have HJ4:Hid (J (k+1) W4):=hJ4
   clear hJ4 hy hR hc
   gi_wp2
   gi_roundg (zs.length - (k+1))
   case measure=>omega
   case rel=>exact ⟨k+1,by omega,rfl,by go_num,HJ4.out⟩
  ·have i1:¬ (k:Int)<(zs.length:Int):=by omega
   obtain rfl:k=zs.length:=by omega
   gi_wp2
   go_end0
   exact ⟨⟨_,rfl⟩,HJ.out⟩
def ivs (zs:List Int):List Value:=zs.map fun z=>Value.int .i64 z
theorem ivs_take (zs:List Int) (k:Nat) (hk:k<zs.length):ivs (zs.take (k+1))=ivs (zs.take k) ++ [.int .i64 zs[k]]:=by
 unfold ivs
 rw [List.take_add_one,List.getElem?_eq_getElem hk,List.map_append]
 rfl
structure CI (w:World) (b0 l1 D1:Nat) (rec:Loop) (zs:List Int) (k:Nat) (W:World):Prop where
 l:W.heap[l1]?=some (.loop rec)
 d:W.heap[D1]?=some (.deferred (some []))
 b:Below w.heap.size w W
 row:∃ v,Boxed W b0 22 v∧W.ownsRow w.heap.size 3 1 v k (ivs (zs.take k))
theorem CI.yes {w w1:World} {b0 l1 D1:Nat} {R:LoopState→Loop} {zs:List Int} {k:Nat} {tmp:Obj} {W:World} {v v':Value} (hd:b0≠l1∧D1≠l1∧D1≠b0) (hb:w.heap.size≤b0∧w.heap.size≤l1) (hk:k<zs.length)
  (hC:CI w b0 l1 D1 (R .ready) zs k W) (r1:Boxed W b0 22 v) (r2:W.ownsRow w.heap.size 3 1 v k (ivs (zs.take k)))
  (hown:w1.ownsRow w.heap.size 3 1 v' (k+1) (ivs (zs.take k) ++ [.int .i64 zs[k]])) (hgrow:((W.putObj l1 (.loop (R .busy))).alloc tmp).grownBy w1 v.ownBlock) :
  (w1.setCell ⟨b0,0,none⟩ v').heap[l1]?=some (.loop (R .busy))∧CI w b0 l1 D1 (R .ready) zs (k+1) ((w1.setCell ⟨b0,0,none⟩ v').putObj l1 (.loop (R .ready))):=by
 obtain ⟨d1,d2,d3⟩:=hd
 obtain ⟨hb0,hbl⟩:=hb
 have zl:l1<W.heap.size:=(Array.getElem?_eq_some_iff.1 hC.l).1
 have zd:D1<W.heap.size:=(Array.getElem?_eq_some_iff.1 hC.d).1
 have g1:=grownBy_putObj' W l1 (.loop (R .busy))
 have g2:(W.putObj l1 (.loop (R .busy))).grownBy ((W.putObj l1 (.loop (R .busy))).alloc tmp) none:=World.grownBy_alloc _ _ _
 have g4:=grownBy_setCell' w1 b0 v'
 have g5:=grownBy_putObj' (w1.setCell ⟨b0,0,none⟩ v') l1 (.loop (R .ready))
 have z2:W.heap.size≤((W.putObj l1 (.loop (R .busy))).alloc tmp).heap.size:=Nat.le_trans g1.size g2.size
 have z3:W.heap.size≤w1.heap.size:=Nat.le_trans z2 hgrow.size
 have z4:W.heap.size≤(w1.setCell ⟨b0,0,none⟩ v').heap.size:=Nat.le_trans z3 g4.size
 have no1:∀ q,v.ownBlock=some q→q≠l1:=fun q hq e=>by
  obtain ⟨cur,hc⟩:=own_cells r2 hq
  rw [e,hC.l] at hc
  cases hc
 have no2:∀ q,v.ownBlock=some q→q≠D1:=fun q hq e=>by
  obtain ⟨cur,hc⟩:=own_cells r2 hq
  rw [e,hC.d] at hc
  cases hc
 have no0:some b0≠v.ownBlock:=r1.not_row (by decide) r2
 have same3:∀ b,b<W.heap.size→b≠l1→some b≠v.ownBlock→w1.heap[b]?=W.heap[b]?:=fun b hlt n1 nv =>
  ((hgrow.block b (Nat.lt_of_lt_of_le hlt z2) nv).trans (g2.block b (Nat.lt_of_lt_of_le hlt g1.size) (by simp))).trans (g1.block b hlt (by simpa using n1))
 have same:∀ b,b<W.heap.size→b≠l1→b≠b0→some b≠v.ownBlock→((w1.setCell ⟨b0,0,none⟩ v').putObj l1 (.loop (R .ready))).heap[b]?=W.heap[b]?:=fun b hlt n1 n0 nv =>
  ((g5.block b (Nat.lt_of_lt_of_le hlt z4) (by simpa using n1)).trans (g4.block b (Nat.lt_of_lt_of_le hlt z3) (by simpa using n0))).trans (same3 b hlt n1 nv)
 have hlb:(W.putObj l1 (.loop (R .busy))).heap[l1]?=some (.loop (R .busy)):=World.putObj_heap_same zl
 have hl3:w1.heap[l1]?=some (.loop (R .busy)):=((hgrow.block l1 (Nat.lt_of_lt_of_le zl z2) (fun e=>no1 l1 e.symm rfl)).trans (g2.block l1 (Nat.lt_of_lt_of_le zl g1.size) (by simp))).trans hlb
 have hl4:(w1.setCell ⟨b0,0,none⟩ v').heap[l1]?=some (.loop (R .busy)):=(g4.block l1 (Nat.lt_of_lt_of_le zl z3) (by simpa using d1.symm)).trans hl3
 have rowf:((w1.setCell ⟨b0,0,none⟩ v').putObj l1 (.loop (R .ready))).ownsRow w.heap.size 3 1 v' (k+1) (ivs (zs.take (k+1))):=by
  have b1:Boxed w1 b0 22 v:=((r1.kept g1 (by simpa using d1)).alloc tmp).kept hgrow no0
  have h8:=hown.kept g4 (.inr (b1.not_row (by decide) hown).symm)
  have h9:=ownsRow_putObj h8 (.loop (R .ready)) hl4 rfl
  rw [ivs_take zs k hk]
  exact h9
 refine ⟨hl4,World.putObj_heap_same (Array.getElem?_eq_some_iff.1 hl4).1,(same D1 zd d2 d3 (fun e=>no2 D1 e.symm rfl)).trans hC.d, ?_,v', ?_,rowf⟩
 ·have k1:=hC.b.grown g1 hC.b.size (fun r e=>by cases e;exact hbl)
  have k2:=k1.grown g2 k1.size (fun r e=>by cases e)
  have k3:=k2.grown hgrow k2.size (fun r e=>(r2.lt r e).1)
  have k4:=k3.grown g4 k3.size (fun r e=>by cases e;exact hb0)
  exact k4.grown g5 k4.size (fun r e=>by cases e;exact hbl)
 ·exact ((((r1.kept g1 (by simpa using d1)).alloc tmp).kept hgrow no0).set v').kept g5 (by simpa using d1)
def GathI (w w':World) (zs:List Int) (v:Value):Prop:=w'.ownsRow w.heap.size 3 1 v zs.length (ivs zs)∧Below w.heap.size w w'
set_option maxRecDepth 100000 in
set_option maxHeartbeats 1600000 in
theorem appendSeqI_any (Bs c:Nat) (a:Option Addr) (zs:List Int) (hz:zs.length≤300) (w:World) (hd:w.cell? ⟨Bs,0,none⟩=some (.slice a zs.length c)) (hr:Row w a zs) :
  Calls Tryz.prog 138 #[.slice none 0 0,.func (.func 106) #[] #[.pointer (some ⟨Bs,0,none⟩)]] w fun e w'=>∃ v,e=.returned v∧GathI w w' zs v:=by
 obtain ⟨n,hn⟩:∃ n:Nat,n=n:=⟨0,rfl⟩
 refine (callsIn_wide (n:=n)).1 ?_
 clear hn
 obtain ⟨iV,hI⟩:=info_parts inf3
 have HI:Hid (Tryz.prog.info? 3=some iV∧iV.zero=some (.int .i64 0)∧iV.size=1∧iV.bytes=8):=hI
 clear hI
 refine callsIn_of_wp_marks Tryz.func138 rfl trivial ?_ rfl
 simp only [Tryz.ntmps138,List.size_toArray,List.length_cons,List.length_nil,Nat.reduceAdd,Nat.reduceSub,Array.replicate_succ,Array.replicate_zero,List.push_toArray,List.append_toArray,List.nil_append,List.cons_append]
 have zd:Bs<w.heap.size:=World.block_lt_of_cell? _ _ hd
 gi_wp2
 refine range_outer (gf:=106) (lb:=#[.pointer (some ⟨Bs,0,none⟩)]) rfl (enters_of Tryz.func106 (by kernel_rfl) rfl) (fun fn=>?_)
 generalize hR:Rec fn _ _ _ _ _=R
 simp only [World.size_alloc] at hR ⊢
 have hdis:w.heap.size≠w.heap.size+1+1∧w.heap.size+1≠w.heap.size+1+1∧w.heap.size+1≠w.heap.size:=by omega
 have hble:w.heap.size≤w.heap.size∧w.heap.size≤w.heap.size+1+1:=by omega
 have h0:CI w w.heap.size (w.heap.size+1+1) (w.heap.size+1) (R .ready) zs 0 (((w.alloc (.cells #[.slice none 0 0] 22)).alloc (.deferred (some []))).alloc (.loop (R .ready))):=by
  refine ⟨?_, ?_,bl_alloc (bl_alloc (bl_alloc (bl_refl _))),.slice none 0 0,((Boxed.new w 22 _).alloc _).alloc _,⟨by simp [ivs],Or.inl ⟨rfl,rfl⟩⟩⟩
  ·have h9:=heap_alloc_new ((w.alloc (.cells #[.slice none 0 0] 22)).alloc (.deferred (some []))) (.loop (R .ready))
   rw [World.size_alloc,World.size_alloc] at h9
   exact h9
  ·have h9:=heap_alloc_new (w.alloc (.cells #[.slice none 0 0] 22)) (.deferred (some []))
   rw [World.size_alloc] at h9
   exact (Below.heap_alloc _ _ _ (by simp)).trans h9
 refine (valuesI_in Bs (w.heap.size+1+1) 0 (n - 1) c a zs (by omega) (CI w w.heap.size (w.heap.size+1+1) (w.heap.size+1) (R .ready) zs) ?hD ?hYes _ h0).mono ?_
 case hD =>
  rintro k W hC
  exact ⟨cl_kept hC.b hd,hr.kept hC.b⟩
 case hYes =>
  rintro k W hk hC
  obtain ⟨v,r1,r2⟩:=hC.row
  have hfin:=fun (w1:World) (v':Value) (tmp:Obj)=>CI.yes (w1:=w1) (v':=v') (tmp:=tmp) hdis hble hk hC r1 r2
  have hl:=hC.l
  have hbx:=r1.kept (grownBy_putObj' W (w.heap.size+1+1) (.loop (R .busy))) (by simpa using hdis.1)
  have hrow:=ownsRow_putObj r2 (.loop (R .busy)) hl rfl
  have zz:w.heap.size≤(W.putObj (w.heap.size+1+1) (.loop (R .busy))).heap.size:=by
   rw [World.putObj_size]
   exact hC.b.size
  obtain ⟨z,hzz⟩:∃ z,z=zs[k]:=⟨_,rfl⟩
  rw [← hzz] at hfin ⊢
  have HF:Hid (∀ (w1:World) (v':Value) (tmp:Obj),w1.ownsRow w.heap.size 3 1 v' (k+1) (ivs (zs.take k) ++ [.int .i64 z])→((W.putObj (w.heap.size+1+1) (.loop (R .busy))).alloc tmp).grownBy w1 v.ownBlock→(w1.setCell ⟨w.heap.size,0,none⟩ v').heap[w.heap.size+1+1]?=some (.loop (R .busy))∧CI w w.heap.size (w.heap.size+1+1) (w.heap.size+1) (R .ready) zs (k+1) ((w1.setCell ⟨w.heap.size,0,none⟩ v').putObj (w.heap.size+1+1) (.loop (R .ready)))):=hfin
  obtain ⟨a8,c8,rfl⟩:∃ a8 c8,v=.slice a8 k c8:=by
   rcases r2.2 with ⟨rfl,h9⟩ | ⟨g9,cap9,cur9,rfl,_⟩
   ·exact ⟨none,0,by rw [h9]⟩
   ·exact ⟨_,cap9,rfl⟩
  clear hC r1 r2 hfin hzz
  rw [← hR] at hl
  refine round_of hl rfl { tmps:=#[.slice none 0 0,.func (.func 106) #[] #[.pointer (some ⟨Bs,0,none⟩)],.pointer (some ⟨w.heap.size,0,none⟩),undef,.slice none 0 0,.int .i64 z,.func (.func 106) #[] #[.pointer (some ⟨Bs,0,none⟩)],.int .i64 z,undef,undef,undef,undef,undef],defers:=[] } ?assign ?body
  case assign =>
   intro K hK
   gi_wp2
   exact hK
  case body =>
   rw [hR]
   have c0:=hbx.cell
   have zb9:=hbx.lt
   generalize hWb:W.putObj (w.heap.size+1+1) (.loop (R .busy))=Wb at *
   clear hR hl h0 hWb
   have hrow2:=own_below hrow (bl_alloc (o:=.cells #[.int .i64 z] 3) (bl_refl Wb))
   gi_wp2_with (gi_at_builtin;refine wpListIn_append_own_at _ rfl (.tmp 8) (.tmp 10) 22 rfl w.heap.size 3 iV (.int .i64 0) 1 8 Tryz.underlying22 HI.out.1 HI.out.2.1 HI.out.2.2.1 HI.out.2.2.2 rfl (by decide) (.slice a8 k c8) k (ivs (zs.take k)) rfl hrow2 ⟨Wb.heap.size,0,none⟩ 1 1 [.int .i64 z] rfl rfl (cell_oneV _ _ _) (by intro u hu;simp at hu;subst hu;rfl) (by unfold maxLen;omega) (by omega) (by simp;omega) ?grow)
   case grow =>
    intro v' w1 hown hgrow _ hblk
    have hf:=HF.out w1 v' _ hown hgrow
    obtain ⟨g9,c9,rfl⟩:=ownsRow_succ hown
    have hbx1:=(hbx.alloc _).kept hgrow (hbx.not_row (by decide) hrow)
    have c1:=hbx1.cell
    have f1:=hbx1.frozen
    have z1:=hbx1.lt
    clear hown hgrow hblk hbx hbx1 hrow hrow2 c0 zb9
    gi_wp2
 rintro e V ⟨⟨u,rfl⟩,hC⟩
 refine ⟨⟨u,rfl⟩,hC.l, ?_⟩
 obtain ⟨v,r1,r2⟩:=hC.row
 rw [List.take_length] at r2
 have hbx:=r1.kept (grownBy_putObj' V (w.heap.size+1+1) (.loop (R .exhausted))) (by simpa using hdis.1)
 have hrow:=ownsRow_putObj r2 (.loop (R .exhausted)) hC.l rfl
 have hK:(V.putObj (w.heap.size+1+1) (.loop (R .exhausted))).heap[w.heap.size+1]?=some (.deferred (some [])):=(put_other hdis.2.1).trans hC.d
 have hB:Below w.heap.size w (V.putObj (w.heap.size+1+1) (.loop (R .exhausted))):=hC.b.grown (grownBy_putObj' V _ _) hC.b.size (fun r e=>by cases e;exact hble.2)
 obtain ⟨a8,c8,rfl⟩:∃ a8 c8,v=.slice a8 zs.length c8:=by
  rcases r2.2 with ⟨rfl,h9⟩ | ⟨g9,cap9,cur9,rfl,_⟩
  ·exact ⟨none,0,by rw [h9]⟩
  ·exact ⟨_,cap9,rfl⟩
 clear r1 r2 hC h0 hR
 generalize V.putObj (w.heap.size+1+1) (.loop (R .exhausted))=V1 at *
 have c0:=hbx.cell
 have zb9:=hbx.lt
 gi_wp2
 refine ⟨by simp,.inl ⟨_,_,rfl,run_takeDeferred hK, ?_⟩⟩
 exact ⟨.slice a8 zs.length c8,by simp [results,Tryz.results138,go_sem],.slice a8 zs.length c8,rfl,ownsRow_putObj hrow _ hK rfl,hB.grown (grownBy_putObj' V1 _ _) hB.size (fun r e=>by cases e;omega)⟩
theorem GathI.slice {w w':World} {zs:List Int} {v:Value} (h:GathI w w' zs v):∃ a q,v=.slice a zs.length q:=by
 rcases h.1.2 with ⟨rfl,h0⟩ | ⟨g,cap,cur,rfl,_⟩
 ·exact ⟨none,0,by rw [h0]⟩
 ·exact ⟨_,_,rfl⟩
set_option maxRecDepth 100000 in
theorem collectI_any (Bs c:Nat) (a:Option Addr) (zs:List Int) (hz:zs.length≤300) (w:World) (hd:w.cell? ⟨Bs,0,none⟩=some (.slice a zs.length c)) (hr:Row w a zs) :
  Calls Tryz.prog 104 #[.func (.func 106) #[] #[.pointer (some ⟨Bs,0,none⟩)]] w fun e w'=>∃ v,e=.returned v∧GathI w w' zs v:=by
 have HA:Hid (Calls Tryz.prog 138 #[.slice none 0 0,.func (.func 106) #[] #[.pointer (some ⟨Bs,0,none⟩)]] w fun e w'=>∃ v,e=.returned v∧GathI w w' zs v):=appendSeqI_any Bs c a zs hz w hd hr
 clear hd hr
 go_enter Tryz.func104,Tryz.ntmps104
 go_wp2_with (go_at_call 138;refine HA.out.mono ?_;rintro e w1 ⟨v,rfl,hg⟩;obtain ⟨a8,c8,rfl⟩:=hg.slice)
 have HG:Hid (GathI w w1 zs (.slice a8 zs.length c8)):=hg
 clear hg
 go_ret
 exact ⟨_,rfl,HG.out⟩
theorem valuesI_any (v:Value) (a:Option Addr) (n c:Nat) (hv:v=.slice a n c) (w:World):Calls Tryz.prog 71 #[v] w fun e w'=>e=.returned (.func (.func 106) #[] #[.pointer (some ⟨w.heap.size,0,none⟩)])∧w'=w.alloc (.cells #[v] 22):=by
 subst hv
 go_enter Tryz.func71,Tryz.ntmps71
 go_wp2
 go_ret
 exact ⟨rfl,rfl⟩
end Go.Proofs.YtgpjaecgkkgehaaGreatDoor
