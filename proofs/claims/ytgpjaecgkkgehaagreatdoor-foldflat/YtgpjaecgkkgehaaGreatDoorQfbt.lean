/- A part of the proof of foldFlat_holds. -/
import Derived.Test.YtgpjaecgkkgehaaGreatDoorQfbs
import Derived.Test.YtgpjaecgkkgehaaGreatDoorQfax
import Derived.Ground.NamesProg
import Derived.Ground.Names2Prog
import Derived.Shelf.Sort.Plain
import Derived.Shelf.Slices.CompactI
import Derived.Test.YtgpjaecgkkgehaaGreatDoorQfbi
import Derived.Test.YtgpjaecgkkgehaaGreatDoorQfbk
import Derived.Test.YtgpjaecgkkgehaaGreatDoorQfbd
namespace Go.Proofs
open Go.Shelf
def Tryz.lays189_ren:Go.Shelf.Ren:=⟨fun | 189=>105 | 125=>140 | 257=>139 | 128=>171 | 129=>172 | 294=>162 | 295=>163 | 296=>164 | 297=>165 | 298=>166 | 299=>167 | 216=>168 | 300=>169 | 301=>170 | 328=>192 | 329=>193 | 330=>194 | 331=>195 | 332=>196 | 215=>184 | 343=>205 | n=>n,fun | 28=>22 | 3=>3 | 46=>182 | 0=>0 | 51=>210 | 53=>213 | 4=>4 | 183=>227 | 182=>226 | 131=>177 | 5=>5 | 9=>9 | 218=>246 | 222=>250 | 228=>258 | 229=>259 | n=>n,fun | n=>n⟩
theorem Tryz.lays189:Go.Proofs.Lays.n189 Tryz.prog Tryz.lays189_ren:={
 mixed:=by kernel_rfl
 f125:=Tryz.func140.trans (congrArg some (by kernel_rfl))
 f128:=Tryz.func171.trans (congrArg some (by kernel_rfl))
 f129:=Tryz.func172.trans (congrArg some (by kernel_rfl))
 f189:=Tryz.func105.trans (congrArg some (by kernel_rfl))
 f215:=Tryz.func184.trans (congrArg some (by kernel_rfl))
 f216:=Tryz.func168.trans (congrArg some (by kernel_rfl))
 f257:=Tryz.func139.trans (congrArg some (by kernel_rfl))
 f294:=Tryz.func162.trans (congrArg some (by kernel_rfl))
 f295:=Tryz.func163.trans (congrArg some (by kernel_rfl))
 f296:=Tryz.func164.trans (congrArg some (by kernel_rfl))
 f297:=Tryz.func165.trans (congrArg some (by kernel_rfl))
 f298:=Tryz.func166.trans (congrArg some (by kernel_rfl))
 f299:=Tryz.func167.trans (congrArg some (by kernel_rfl))
 f300:=Tryz.func169.trans (congrArg some (by kernel_rfl))
 f301:=Tryz.func170.trans (congrArg some (by kernel_rfl))
 f328:=Tryz.func192.trans (congrArg some (by kernel_rfl))
 f329:=Tryz.func193.trans (congrArg some (by kernel_rfl))
 f330:=Tryz.func194.trans (congrArg some (by kernel_rfl))
 f331:=Tryz.func195.trans (congrArg some (by kernel_rfl))
 f332:=Tryz.func196.trans (congrArg some (by kernel_rfl))
 f343:=Tryz.func205.trans (congrArg some (by kernel_rfl))
 t0:=Tryz.underlying0
 a0:=Tryz.isAgg0
 z0:=Tryz.sizeOf0
 v0:=Tryz.zeroValue0
 t3:=Tryz.underlying3
 a3:=Tryz.isAgg3
 z3:=Tryz.sizeOf3
 v3:=Tryz.zeroValue3
 t4:=Tryz.underlying4
 a4:=Tryz.isAgg4
 z4:=Tryz.sizeOf4
 v4:=Tryz.zeroValue4
 t5:=Tryz.underlying5
 a5:=Tryz.isAgg5
 z5:=Tryz.sizeOf5
 v5:=Tryz.zeroValue5
 t9:=Tryz.underlying9
 a9:=Tryz.isAgg9
 z9:=Tryz.sizeOf9
 v9:=Tryz.zeroValue9
 t28:=Tryz.underlying22
 a28:=Tryz.isAgg22
 z28:=Tryz.sizeOf22
 v28:=Tryz.zeroValue22
 t46:=Tryz.underlying182
 a46:=Tryz.isAgg182
 z46:=Tryz.sizeOf182
 v46:=Tryz.zeroValue182
 t51:=Tryz.underlying210
 a51:=Tryz.isAgg210
 z51:=Tryz.sizeOf210
 v51:=Tryz.zeroValue210
 t53:=Tryz.underlying213
 a53:=Tryz.isAgg213
 z53:=Tryz.sizeOf213
 v53:=Tryz.zeroValue213
 t131:=Tryz.underlying177
 a131:=Tryz.isAgg177
 z131:=Tryz.sizeOf177
 v131:=Tryz.zeroValue177
 t182:=Tryz.underlying226
 a182:=Tryz.isAgg226
 z182:=Tryz.sizeOf226
 v182:=Tryz.zeroValue226
 t183:=Tryz.underlying227
 a183:=Tryz.isAgg227
 z183:=Tryz.sizeOf227
 v183:=Tryz.zeroValue227
 t218:=Tryz.underlying246
 a218:=Tryz.isAgg246
 z218:=Tryz.sizeOf246
 v218:=Tryz.zeroValue246
 t222:=Tryz.underlying250
 a222:=Tryz.isAgg250
 z222:=Tryz.sizeOf250
 v222:=Tryz.zeroValue250
 t228:=Tryz.underlying258
 a228:=Tryz.isAgg258
 z228:=Tryz.sizeOf258
 v228:=Tryz.zeroValue258
 t229:=Tryz.underlying259
 a229:=Tryz.isAgg259
 z229:=Tryz.sizeOf259
 v229:=Tryz.zeroValue259 }
def Tryz.lays20_ren:Go.Shelf.Ren:=⟨fun | 20=>69 | n=>n,fun | 22=>22 | 3=>3 | 4=>4 | 0=>0 | n=>n,fun | n=>n⟩
theorem Tryz.lays20:Go.Proofs.Lays2.n20 Tryz.prog Tryz.lays20_ren:={
 mixed:=by kernel_rfl
 f20:=Tryz.func69.trans (congrArg some (by kernel_rfl))
 t0:=Tryz.underlying0
 a0:=Tryz.isAgg0
 z0:=Tryz.sizeOf0
 v0:=Tryz.zeroValue0
 t3:=Tryz.underlying3
 a3:=Tryz.isAgg3
 z3:=Tryz.sizeOf3
 v3:=Tryz.zeroValue3
 t4:=Tryz.underlying4
 a4:=Tryz.isAgg4
 z4:=Tryz.sizeOf4
 v4:=Tryz.zeroValue4
 t22:=Tryz.underlying22
 a22:=Tryz.isAgg22
 z22:=Tryz.sizeOf22
 v22:=Tryz.zeroValue22
 i3:=by kernel_rfl }
end Go.Proofs
namespace Go.Proofs.YtgpjaecgkkgehaaGreatDoor
open Go.RowKit Go.Shelf Go.Lib
open Go.Sort hiding Below
theorem filter_lt {α:Type} (p : α→Bool):∀ l:List α,(l.filter p).length<l.length↔∃ x∈l,p x=false
 | []=>by simp
 | x :: r=>by
  have hle:=List.length_filter_le p r
  by_cases q:p x=true
  ·rw [List.filter_cons_of_pos q,List.length_cons,List.length_cons,Nat.add_lt_add_iff_right,filter_lt p r]
   constructor
   ·rintro ⟨y,hy,e⟩
    exact ⟨y,by simp [hy],e⟩
   ·rintro ⟨y,hy,e⟩
    rcases List.mem_cons.1 hy with rfl | hy
    ·rw [q] at e
     cases e
    ·exact ⟨y,hy,e⟩
  ·rw [List.filter_cons_of_neg q,List.length_cons]
   exact ⟨fun _=>⟨x,by simp,by simpa using q⟩,fun _=>by omega⟩
theorem holds_ints {w:World} {base g c:Nat} {zs:List Int} (h:w.ownsRow base 3 1 (.slice (some ⟨g,0,none⟩) zs.length c) zs.length (ivs zs)):Holds (Value.int .i64) w g 0 zs.toArray:=fun j hj=>by
 have hj2:j<zs.length:=by simpa using hj
 refine ⟨?_, ?_⟩
 ·have hc:=h.cellAt j (by omega)
  rw [Nat.zero_add,hc,getElem!_pos _ j hj]
  simp [ivs,hj2]
 ·rcases h.2 with ⟨e,_⟩ | ⟨g',cap,cur,e,_,h3,_⟩
  ·cases e
  ·cases e
   simp [World.frozen?,h3]
theorem compact_twice (zs:List Int):(Lib.compact (zs.mergeSort fun x y=>decide (x≤y))).length<zs.length↔¬ zs.Nodup:=by
 have hp:(zs.mergeSort fun x y=>decide (x≤y)).Perm zs:=List.mergeSort_perm zs _
 have hs:(zs.mergeSort fun x y=>decide (x≤y)).Pairwise (fun x y=>decide (x≤y)=true):=List.pairwise_mergeSort (fun a b c h1 h2=>by simp at *;omega) (fun a b=>by simp;omega) zs
 rw [← hp.nodup_iff,← hp.length_eq]
 generalize (zs.mergeSort fun x y=>decide (x≤y))=s at hs
 unfold Lib.compact Lib.compactUpTo
 rw [List.length_map]
 have h1:=filter_lt (Lib.keeps s.toArray) (List.range s.length)
 rw [List.length_range] at h1
 rw [h1]
 constructor
 ·rintro ⟨i,hi,hk⟩ hnd
  have hi2:=List.mem_range.1 hi
  unfold Lib.keeps at hk
  rw [decide_eq_false_iff_not] at hk
  have h0:i≠0:=fun e=>hk (Or.inl e)
  have he:s.toArray[i]! = s.toArray[i - 1]!:=Classical.byContradiction fun e=>hk (Or.inr e)
  rw [getElem!_pos s.toArray i (by simpa using hi2),getElem!_pos s.toArray (i - 1) (by simp;omega)] at he
  simp only [List.getElem_toArray] at he
  exact List.pairwise_iff_getElem.1 hnd (i - 1) i (by omega) hi2 (by omega) he.symm
 ·intro hnd
  refine Classical.byContradiction fun hno=>hnd ?_
  have hk:∀ i,i<s.length→i≠0→s.toArray[i]! ≠ s.toArray[i - 1]!:=fun i hi h0=>by
   have hk2:Lib.keeps s.toArray i=true:=by
    cases hc:Lib.keeps s.toArray i with
    | true=>rfl
    | false=>exact absurd ⟨i,List.mem_range.2 hi,hc⟩ hno
   unfold Lib.keeps at hk2
   rw [decide_eq_true_eq] at hk2
   exact hk2.resolve_left h0
  show s.Pairwise (fun a b=>a≠b)
  rw [List.pairwise_iff_getElem]
  intro i j hi hj hij
  have e1:=hk j hj (by omega)
  rw [getElem!_pos s.toArray j (by simpa using hj),getElem!_pos s.toArray (j - 1) (by simp;omega)] at e1
  simp only [List.getElem_toArray] at e1
  have hs2:=List.pairwise_iff_getElem.1 hs
  have e2:s[j - 1]≤s[j]:=by simpa using hs2 (j - 1) j (by omega) hj (by omega)
  have e3:s[i]≤s[j - 1]:=by
   rcases Nat.lt_or_ge i (j - 1) with q | q
   ·simpa using hs2 i (j - 1) hi (by omega) q
   ·have:i=j - 1:=by omega
    subst this
    exact Int.le_refl _
  omega
theorem sortI_any (g q:Nat) (zs:List Int) (hz:zs.length≤300) (w:World) (hH:Holds (Value.int .i64) w g 0 zs.toArray) (hg:g<w.heap.size) :
  Calls Tryz.prog 105 #[.slice (some ⟨g,0,none⟩) zs.length q] w fun e w'=>e=.returned (.tuple #[])∧∃ m os,w'=sortWorld (Value.int .i64) w g 0 m (zs.mergeSort fun x y=>decide (x≤y)).toArray os :=
 Any.slices_Sort_int Tryz.lays189 g 0 q zs w hH hg (by omega)
set_option maxRecDepth 100000 in
theorem sortedI_any (Bs c:Nat) (a:Option Addr) (zs:List Int) (h0:0<zs.length) (hz:zs.length≤300) (w:World) (hd:w.cell? ⟨Bs,0,none⟩=some (.slice a zs.length c)) (hr:Row w a zs) :
  Calls Tryz.prog 70 #[.func (.func 106) #[] #[.pointer (some ⟨Bs,0,none⟩)]] w fun e w'=>∃ g q,e=.returned (.slice (some ⟨g,0,none⟩) zs.length q)∧zs.length≤q∧Holds (Value.int .i64) w' g 0 (zs.mergeSort fun x y=>decide (x≤y)).toArray∧w.heap.size≤g∧Below w.heap.size w w':=by
 have C1:Hid (Calls Tryz.prog 104 #[.func (.func 106) #[] #[.pointer (some ⟨Bs,0,none⟩)]] w fun e w'=>∃ v,e=.returned v∧GathI w w' zs v):=collectI_any Bs c a zs hz w hd hr
 have HL:Hid (0<zs.length):=h0
 clear hd hr
 go_enter Tryz.func70,Tryz.ntmps70
 go_wp2_with (first | (go_at_call 104;refine C1.out.mono ?_;rintro e w1 ⟨v,rfl,hg⟩;obtain ⟨g,q,rfl⟩:=own_slice hg.1 HL.out;have HG:Hid (GathI w w1 zs (.slice (some ⟨g,0,none⟩) zs.length q)):=hg;clear hg) | (go_at_call 105;refine (sortI_any g q zs hz _ (holds_ints HG.out.1) (HG.out.1.lt g rfl).2).mono ?_;rintro e w2 ⟨rfl,m,os,hw2⟩;have HS:Hid (w2=sortWorld (Value.int .i64) w1 g 0 m (zs.mergeSort fun x y=>decide (x≤y)).toArray os):=hw2;clear hw2))
 go_ret
 have hlen:(zs.mergeSort fun x y=>decide (x≤y)).toArray.size=zs.toArray.size:=by simp
 have hq:zs.length≤q:=by
  rcases HG.out.1.2 with ⟨e,_⟩ | ⟨g',cap,cur,e,_,_,h4,_⟩
  ·cases e
  ·cases e
   exact h4
 have zb:=(HG.out.1.lt g rfl).1
 refine ⟨g,q,rfl,hq, ?_,zb, ?_⟩
 ·rw [HS.out]
  exact holds_sortWorld (Value.int .i64) w1 g 0 m zs.toArray _ os (HG.out.1.lt g rfl).2 (holds_ints HG.out.1) hlen
 ·rw [HS.out]
  exact HG.out.2.grown (grown_sorted1 _ _) HG.out.2.size (fun r e=>by cases e;exact zb)
theorem bl_putRow (w:World) (g k:Nat) (d:Array Int):Below g w (putRow (Value.int .i64) (Sort.ahead w k) g 0 d):=⟨rfl,rfl,rfl,by simp [Sort.ahead],fun i hi=>by
 have:g≠i:=by omega
 simp [putRow,mapBlock,Sort.ahead,Array.getElem?_modify,this]⟩
theorem compI_any (g q:Nat) (zs:List Int) (hz:zs.length≤300) (w:World) (hq:zs.length≤q) (hH:Holds (Value.int .i64) w g 0 (zs.mergeSort fun x y=>decide (x≤y)).toArray) :
  Calls Tryz.prog 69 #[.slice (some ⟨g,0,none⟩) zs.length q] w fun e w'=>e=.returned (.slice (some ⟨g,0,none⟩) (Lib.compact (zs.mergeSort fun x y=>decide (x≤y))).length q)∧Below g w w':=by
 have hl:(zs.mergeSort fun x y=>decide (x≤y)).length=zs.length:=by simp
 have h:=Any.slices_Compact_int Tryz.lays20 g 0 q (zs.mergeSort fun x y=>decide (x≤y)) w hH (by omega) (by omega)
 rw [hl] at h
 refine h.mono ?_
 rintro e w' ⟨rfl,k,rfl⟩
 exact ⟨rfl,bl_putRow _ _ _ _⟩
set_option maxRecDepth 100000 in
theorem twice_any (w:World) (a:Option Addr) (c:Nat) (zs:List Int) (h0:0<zs.length) (hz:zs.length≤300) (hr:Row w a zs) :
  Calls Tryz.prog 31 #[.slice a zs.length c] w fun e w'=>e=.returned (.bool (decide (¬ zs.Nodup)))∧Below w.heap.size w w':=by
 have C2:Hid (∀ V,V=w.alloc (.cells #[.slice a zs.length c] 22)→Calls Tryz.prog 70 #[.func (.func 106) #[] #[.pointer (some ⟨w.heap.size,0,none⟩)]] V fun e w'=>∃ g q,e=.returned (.slice (some ⟨g,0,none⟩) zs.length q)∧zs.length≤q∧Holds (Value.int .i64) w' g 0 (zs.mergeSort fun x y=>decide (x≤y)).toArray∧V.heap.size≤g∧Below V.heap.size V w'):=fun V hV=>by
  subst hV
  exact sortedI_any w.heap.size c a zs h0 hz _ (by simp [go_sem]) (hr.kept (bl_alloc (bl_refl _)))
 obtain ⟨m,hm⟩:∃ m,m=(Lib.compact (zs.mergeSort fun x y=>decide (x≤y))).length:=⟨_,rfl⟩
 have HB:Hid (decide (m<zs.length)=decide (¬ zs.Nodup)):=by
  have h1:=compact_twice zs
  have:decide (m<zs.length)=decide (¬ zs.Nodup):=by rw [hm];exact decide_eq_decide.2 h1
  exact this
 have HM:Hid (m=(Lib.compact (zs.mergeSort fun x y=>decide (x≤y))).length):=hm
 obtain ⟨bb,hbb⟩:∃ bb,bb=decide (¬ zs.Nodup):=⟨_,rfl⟩
 rw [← hbb] at HB ⊢
 clear hr hm hbb
 go_enter Tryz.func31,Tryz.ntmps31
 go_wp2_with (first | (go_at_call 71;refine (valuesI_any _ a zs.length c rfl _).mono ?_;rintro e W1 ⟨rfl,hW1⟩;have HW1:Hid (W1=w.alloc (.cells #[.slice a zs.length c] 22)):=hW1;clear hW1) | (go_at_call 70;refine (C2.out _ HW1.out).mono ?_;rintro e W2 ⟨g,q,rfl,hq,hh,hg,hb⟩;have HQ:Hid (zs.length≤q∧Holds (Value.int .i64) W2 g 0 (zs.mergeSort fun x y=>decide (x≤y)).toArray∧W1.heap.size≤g∧Below W1.heap.size W1 W2):=⟨hq,hh,hg,hb⟩;clear hq hh hg hb) | (go_at_call 69;refine (compI_any g q zs hz _ HQ.out.1 HQ.out.2.1).mono ?_;rintro e W3 ⟨rfl,hb3⟩;have HB3:Hid (Below g W2 W3):=hb3;clear hb3;rw [← HM.out]))
 go_ret
 refine ⟨?_, ?_⟩
 ·rw [← HB.out]
  rfl
 ·have e1:Below w.heap.size w W1:=by rw [HW1.out];exact bl_alloc (bl_refl _)
  have zz:=e1.size
  have hgg:=HQ.out.2.2.1
  exact (bl_via e1 HQ.out.2.2.2).trans (HB3.out.mono (by omega))
end Go.Proofs.YtgpjaecgkkgehaaGreatDoor
namespace Go.Proofs.YtgpjaecgkkgehaaGreatDoor
open Go.RowKit Go.Shelf Go.Lib
set_option maxRecDepth 100000 in
set_option maxHeartbeats 6400000 in
theorem lay_tear (w:World) (W H:Int) (a cb ah:Option Addr) (m ca n ccap hn hc:Nat) (CP:Hid (∀ V:World,Below w.heap.size w V→Calls Tryz.prog 28 #[.agg #[.int .i64 W,.int .i64 H,.slice a m ca,.slice cb n ccap]] V fun e w'=>e=.returned (.tuple #[.agg #[.slice none 0 0,.map none,.map none,.slice none 0 0,.slice none 0 0],.int .i64 8])∧Below V.heap.size V w')) :
  Calls Tryz.prog 7 #[.agg #[.int .i64 W,.int .i64 H,.slice a m ca,.slice cb n ccap],.slice ah hn hc] w fun e w'=>e=.returned (.tuple #[.agg #[.int .i64 0,.int .i64 0,.slice none 0 0,.slice none 0 0,.slice none 0 0,.slice none 0 0],.int .i64 8])∧Below w.heap.size w w':=by
 go_enter Tryz.func7,Tryz.ntmps7
 go_upto_region 1 with fail
 refine wp_named (fun W0 hW0=>?_)
 have hw0:Below w.heap.size w W0:=by rw [hW0];exact bl_alloc (bl_alloc (bl_alloc (bl_refl _)))
 have x00:W0.cell? ⟨w.heap.size,0,none⟩=some (.int .i64 W):=by rw [hW0];simp [go_sem]
 have x01:W0.cell? ⟨w.heap.size,1,none⟩=some (.int .i64 H):=by rw [hW0];simp [go_sem]
 have x02:W0.cell? ⟨w.heap.size,2,none⟩=some (.slice a m ca):=by rw [hW0];simp [go_sem]
 have x03:W0.cell? ⟨w.heap.size,3,none⟩=some (.slice cb n ccap):=by rw [hW0];simp [go_sem]
 have x04:W0.cell? ⟨w.heap.size+1,0,none⟩=some (.slice ah hn hc):=by rw [hW0];simp [go_sem]
 have y00:W0.cell? ⟨w.heap.size+2,0,none⟩=some (.int .i64 0):=by rw [hW0];simp [go_sem]
 have f00:W0.frozen? ⟨w.heap.size+2,0,none⟩=false:=by rw [hW0];simp [go_sem]
 have y01:W0.cell? ⟨w.heap.size+2,1,none⟩=some (.int .i64 0):=by rw [hW0];simp [go_sem]
 have f01:W0.frozen? ⟨w.heap.size+2,1,none⟩=false:=by rw [hW0];simp [go_sem]
 have y02:W0.cell? ⟨w.heap.size+2,2,none⟩=some (.slice none 0 0):=by rw [hW0];simp [go_sem]
 have f02:W0.frozen? ⟨w.heap.size+2,2,none⟩=false:=by rw [hW0];simp [go_sem]
 have y03:W0.cell? ⟨w.heap.size+2,3,none⟩=some (.slice none 0 0):=by rw [hW0];simp [go_sem]
 have f03:W0.frozen? ⟨w.heap.size+2,3,none⟩=false:=by rw [hW0];simp [go_sem]
 have y04:W0.cell? ⟨w.heap.size+2,4,none⟩=some (.slice none 0 0):=by rw [hW0];simp [go_sem]
 have f04:W0.frozen? ⟨w.heap.size+2,4,none⟩=false:=by rw [hW0];simp [go_sem]
 have y05:W0.cell? ⟨w.heap.size+2,5,none⟩=some (.slice none 0 0):=by rw [hW0];simp [go_sem]
 have f05:W0.frozen? ⟨w.heap.size+2,5,none⟩=false:=by rw [hW0];simp [go_sem]
 have z0:w.heap.size+2<W0.heap.size:=World.block_lt_of_cell? _ _ y00
 clear hW0
 go_upto_region 2 with (go_at_call 28;refine (CP.out _ hw0).mono ?_;rintro e w1 ⟨rfl,hb1⟩)
 have x10:=cl_kept hb1 x00
 have x11:=cl_kept hb1 x01
 have x12:=cl_kept hb1 x02
 have x13:=cl_kept hb1 x03
 have x14:=cl_kept hb1 x04
 have y10:=cl_kept hb1 y00
 have f10:=(hb1.frozen (p:=⟨w.heap.size+2,0,none⟩) z0).trans f00
 have y11:=cl_kept hb1 y01
 have f11:=(hb1.frozen (p:=⟨w.heap.size+2,1,none⟩) z0).trans f01
 have y12:=cl_kept hb1 y02
 have f12:=(hb1.frozen (p:=⟨w.heap.size+2,2,none⟩) z0).trans f02
 have y13:=cl_kept hb1 y03
 have f13:=(hb1.frozen (p:=⟨w.heap.size+2,3,none⟩) z0).trans f03
 have y14:=cl_kept hb1 y04
 have f14:=(hb1.frozen (p:=⟨w.heap.size+2,4,none⟩) z0).trans f04
 have y15:=cl_kept hb1 y05
 have f15:=(hb1.frozen (p:=⟨w.heap.size+2,5,none⟩) z0).trans f05
 have z1:=Nat.lt_of_lt_of_le z0 hb1.size
 clear x00 x01 x02 x03 x04 y00 f00 y01 f01 y02 f02 y03 f03 y04 f04 y05 f05
 have HB1:Hid (Below w.heap.size w w1):=bl_via hw0 hb1
 clear hb1 hw0 x10 x11 x12 x13 x14
 go_wp2
 refine bodyPost_ret (v:=.tuple #[.agg #[.int .i64 0,.int .i64 0,.slice none 0 0,.slice none 0 0,.slice none 0 0,.slice none 0 0],.int .i64 8]) (by simp [results,Tryz.results7,go_sem, *]) rfl ⟨rfl, ?_⟩
 with_reducible repeat' (first | exact HB1.out | refine bl_set ?_ ?_ | refine bl_drew ?_ | refine bl_alloc ?_)
 all_goals (dsimp only;omega)
end Go.Proofs.YtgpjaecgkkgehaaGreatDoor
