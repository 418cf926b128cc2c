/- A part of the proof of foldFlat_holds. -/
import Derived.Test.YtgpjaecgkkgehaaGreatDoorQfau
import Derived.Test.YtgpjaecgkkgehaaGreatDoorQfaw
import Derived.Ground.SlsfProg
import Derived.Shelf.SlSortCmp.Whole1
import Derived.Test.YtgpjaecgkkgehaaGreatDoorQfah
import Derived.Deep.AppendLies
import Derived.Test.YtgpjaecgkkgehaaGreatDoorQfaj
import Derived.Test.YtgpjaecgkkgehaaGreatDoorQfat
import Derived.Test.YtgpjaecgkkgehaaGreatDoorQfao
import Derived.Test.YtgpjaecgkkgehaaGreatDoorQfam
namespace Go.Proofs
open Go.Shelf
def Tryz.sortRows_ren:Go.Shelf.Ren:=⟨fun | 6=>174 | 15=>140 | 14=>198 | 28=>171 | 29=>172 | 20=>206 | 21=>207 | 22=>208 | 23=>209 | 24=>210 | 25=>211 | 26=>212 | 27=>213 | 46=>216 | 47=>193 | 48=>194 | 49=>217 | 50=>218 | 57=>219 | n=>n,fun | 22=>171 | 24=>22 | 25=>205 | 3=>3 | 39=>182 | 0=>0 | 53=>210 | 55=>213 | 4=>4 | 46=>227 | 45=>226 | 50=>177 | 5=>5 | 9=>9 | 66=>246 | 70=>250 | 76=>258 | 77=>259 | n=>n,fun | n=>n⟩
theorem Tryz.sortRows:Go.Proofs.SlLaysF.n6 Tryz.prog Tryz.sortRows_ren:={
 mixed:=by kernel_rfl
 f6:=⟨Tryz.f174.name,by decide,Tryz.func174.trans (congrArg some (by kernel_rfl))⟩
 f14:=⟨Tryz.f198.name,by decide,Tryz.func198.trans (congrArg some (by kernel_rfl))⟩
 f15:=Tryz.func140.trans (congrArg some (by kernel_rfl))
 f20:=⟨Tryz.f206.name,by decide,Tryz.func206.trans (congrArg some (by kernel_rfl))⟩
 f21:=⟨Tryz.f207.name,by decide,Tryz.func207.trans (congrArg some (by kernel_rfl))⟩
 f22:=⟨Tryz.f208.name,by decide,Tryz.func208.trans (congrArg some (by kernel_rfl))⟩
 f23:=⟨Tryz.f209.name,by decide,Tryz.func209.trans (congrArg some (by kernel_rfl))⟩
 f24:=⟨Tryz.f210.name,by decide,Tryz.func210.trans (congrArg some (by kernel_rfl))⟩
 f25:=⟨Tryz.f211.name,by decide,Tryz.func211.trans (congrArg some (by kernel_rfl))⟩
 f26:=⟨Tryz.f212.name,by decide,Tryz.func212.trans (congrArg some (by kernel_rfl))⟩
 f27:=⟨Tryz.f213.name,by decide,Tryz.func213.trans (congrArg some (by kernel_rfl))⟩
 f28:=Tryz.func171.trans (congrArg some (by kernel_rfl))
 f29:=Tryz.func172.trans (congrArg some (by kernel_rfl))
 f46:=⟨Tryz.f216.name,by decide,Tryz.func216.trans (congrArg some (by kernel_rfl))⟩
 f47:=Tryz.func193.trans (congrArg some (by kernel_rfl))
 f48:=Tryz.func194.trans (congrArg some (by kernel_rfl))
 f49:=⟨Tryz.f217.name,by decide,Tryz.func217.trans (congrArg some (by kernel_rfl))⟩
 f50:=⟨Tryz.f218.name,by decide,Tryz.func218.trans (congrArg some (by kernel_rfl))⟩
 f57:=⟨Tryz.f219.name,by decide,Tryz.func219.trans (congrArg some (by kernel_rfl))⟩
 t0:=Tryz.underlying0
 a0:=Tryz.isAgg0
 z0:=Tryz.sizeOf0
 v0:=Tryz.zeroValue0
 t3:=Tryz.underlying3
 a3:=Tryz.isAgg3
 z3:=Tryz.sizeOf3
 v3:=Tryz.zeroValue3
 t4:=Tryz.underlying4
 a4:=Tryz.isAgg4
 z4:=Tryz.sizeOf4
 v4:=Tryz.zeroValue4
 t5:=Tryz.underlying5
 a5:=Tryz.isAgg5
 z5:=Tryz.sizeOf5
 v5:=Tryz.zeroValue5
 t9:=Tryz.underlying9
 a9:=Tryz.isAgg9
 z9:=Tryz.sizeOf9
 v9:=Tryz.zeroValue9
 t22:=Tryz.underlying171
 a22:=Tryz.isAgg171
 z22:=Tryz.sizeOf171
 v22:=Tryz.zeroValue171
 a24:=Tryz.isAgg22
 z24:=Tryz.sizeOf22
 t25:=Tryz.underlying205
 a25:=Tryz.isAgg205
 z25:=Tryz.sizeOf205
 v25:=Tryz.zeroValue205
 t39:=Tryz.underlying182
 a39:=Tryz.isAgg182
 z39:=Tryz.sizeOf182
 v39:=Tryz.zeroValue182
 t45:=Tryz.underlying226
 a45:=Tryz.isAgg226
 z45:=Tryz.sizeOf226
 v45:=Tryz.zeroValue226
 t46:=Tryz.underlying227
 a46:=Tryz.isAgg227
 z46:=Tryz.sizeOf227
 v46:=Tryz.zeroValue227
 t50:=Tryz.underlying177
 a50:=Tryz.isAgg177
 z50:=Tryz.sizeOf177
 v50:=Tryz.zeroValue177
 t53:=Tryz.underlying210
 a53:=Tryz.isAgg210
 z53:=Tryz.sizeOf210
 v53:=Tryz.zeroValue210
 t55:=Tryz.underlying213
 a55:=Tryz.isAgg213
 z55:=Tryz.sizeOf213
 v55:=Tryz.zeroValue213
 t66:=Tryz.underlying246
 a66:=Tryz.isAgg246
 z66:=Tryz.sizeOf246
 v66:=Tryz.zeroValue246
 t70:=Tryz.underlying250
 a70:=Tryz.isAgg250
 z70:=Tryz.sizeOf250
 v70:=Tryz.zeroValue250
 t76:=Tryz.underlying258
 a76:=Tryz.isAgg258
 z76:=Tryz.sizeOf258
 v76:=Tryz.zeroValue258
 t77:=Tryz.underlying259
 a77:=Tryz.isAgg259
 z77:=Tryz.sizeOf259
 v77:=Tryz.zeroValue259 }
end Go.Proofs
namespace Go.Proofs.YtgpjaecgkkgehaaGreatDoor
open Go.RowKit Go.Shelf Go.Lib
open Go.Sort hiding Below
theorem cmpT_lt (s t:Int×Int×Int):cmpT s.1 s.2.1 s.2.2 t.1 t.2.1 t.2.2<0↔ltT s t:=by
 unfold cmpT or2 cmp3 ltT
 repeat' split
 all_goals omega
def RowAt (w:World) (gp n:Nat) (x:((Int×Int×Int)×Value×Nat)):Prop := ∃ (g m c i:Nat),x.2.1=.slice (some ⟨g,0,none⟩) m c∧0<m∧w.cell? ⟨g,0,none⟩=some (.int .i64 (i:Int))∧i<n∧At3 w gp (i*3) x.1
theorem grown_sorted1 {α:Type} [Inhabited α] {w:World} {g m:Nat} {os:Array Obj} (enc : α→Value) (d:Array α):w.grownBy (sortWorld enc w g 0 m d os) (some g):=by
 refine ⟨rfl,rfl,rfl, ?_,fun k hk hne=>?_⟩
 ·simp [sortWorld,grow,putRow,mapBlock,Sort.ahead]
 ·unfold sortWorld
  rw [heap_grow_old _ _ (by simpa [putRow,mapBlock,Sort.ahead] using hk)]
  have:g≠k:=fun e=>hne (by rw [e])
  simp [putRow,mapBlock,Sort.ahead,Array.getElem?_modify,this]
set_option maxRecDepth 100000 in
theorem sortRows_any (w:World) (base g c pb gp n pc:Nat) (vis:List ((Int×Int×Int)×Value×Nat)) (hown:w.ownsRow base 22 1 (.slice (some ⟨g,0,none⟩) vis.length c) vis.length (valsOf vis)) (h0:vis≠[]) (hz:vis.length≤300)
  (hp:w.cell? ⟨pb,4,none⟩=some (.slice (some ⟨gp,0,none⟩) n pc)) (hR:∀ x∈vis,RowAt w gp n x) (hb:pb<base∧gp<base) (hg:∀ x∈vis,x.2.1.ownBlock≠some g) :
  Calls Tryz.prog 174 #[.slice (some ⟨g,0,none⟩) vis.length c,.func (.func 143) #[] #[.pointer (some ⟨pb,0,none⟩)]] w fun e w'=>e=.returned (.tuple #[])∧∃ vis':List ((Int×Int×Int)×Value×Nat),vis'.Perm vis∧vis'.Pairwise (fun x y=>¬ ltT y.1 x.1)∧(∀ i (hi:i<vis'.length),w'.cell? ⟨g,i,none⟩=some vis'[i].2.1)∧w.grownBy w' (some g):=by
 obtain ⟨x0,hx0⟩:=List.exists_mem_of_ne_nil vis h0
 letI:Inhabited {x // x∈vis}:=⟨⟨x0,hx0⟩⟩
 have hgb:=hown.lt g rfl
 have enc1:OneCell (fun x:{x // x∈vis}=>x.val.2.1):=fun x=>by
  obtain ⟨ga,m,ca,i,e,_⟩:=hR x.val x.property
  show (x.val.2.1).oneCell'=true
  rw [e]
  rfl
 have hcf:SWO (ltOf (fun x y:{x // x∈vis}=>cmpT x.val.1.1 x.val.1.2.1 x.val.1.2.2 y.val.1.1 y.val.1.2.1 y.val.1.2.2)):={
  irrefl:=fun x=>by
   unfold ltOf
   rw [decide_eq_false_iff_not,cmpT_lt]
   exact ltT_irr _
  trans:=fun x y z h1 h2=>by
   unfold ltOf at *
   rw [decide_eq_true_eq,cmpT_lt] at *
   exact ltT_trans _ _ _ h1 h2
  ntrans:=fun x y z h1 h2=>by
   unfold ltOf at *
   rw [decide_eq_false_iff_not,cmpT_lt] at *
   unfold ltT at *
   omega }
 have hH:Holds (fun x:{x // x∈vis}=>x.val.2.1) w g 0 vis.attach.toArray:=fun j hj=>by
  have hj2:j<vis.length:=by simpa using hj
  refine ⟨?_, ?_⟩
  ·have hc:=hown.cellAt j (by omega)
   rw [Nat.zero_add,hc]
   rw [getElem!_pos _ j hj]
   simp [valsOf,hj2]
  ·rcases hown.2 with ⟨h1,_⟩ | ⟨g',cap,cur,h1,_,h3,_⟩
   ·cases h1
   ·cases h1
    simp [World.frozen?,h3]
 have hlays:CmpLays1 Tryz.prog 143 #[.pointer (some ⟨pb,0,none⟩)] (fun x:{x // x∈vis}=>x.val.2.1) (fun x y=>cmpT x.val.1.1 x.val.1.2.1 x.val.1.2.2 y.val.1.1 y.val.1.2.1 y.val.1.2.2) g 0 vis.attach.toArray.size w:=fun m os dk _ x y=>by
  have hgr:=grown_sorted1 (w:=w) (g:=g) (m:=m) (os:=os) (fun x:{x // x∈vis}=>x.val.2.1) dk
  have keep:∀ b o v,w.cell? ⟨b,o,none⟩=some v→b≠g→(sortWorld (fun x:{x // x∈vis}=>x.val.2.1) w g 0 m dk os).cell? ⟨b,o,none⟩=some v:=fun b o v h hne=>hgr.cell h (by simpa using hne)
  obtain ⟨ga,ma,ca,i,ea,q1,q2,q3,q4⟩:=hR x.val x.property
  obtain ⟨gb,mb,cb,j,eb,r1,r2,r3,r4⟩:=hR y.val y.property
  have na:ga≠g:=fun e=>hg x.val x.property (by rw [ea,e];rfl)
  have nb:gb≠g:=fun e=>hg y.val y.property (by rw [eb,e];rfl)
  have np:gp≠g:=by omega
  have npb:pb≠g:=by omega
  have:=piledCmp_gd (sortWorld (fun x:{x // x∈vis}=>x.val.2.1) w g 0 m dk os) pb gp n pc ga ma ca gb mb cb i j x.val.1 y.val.1 (keep _ _ _ hp npb) q1 r1 (keep _ _ _ q2 na) (keep _ _ _ r2 nb) q3 r3 ⟨keep _ _ _ q4.1 np,keep _ _ _ q4.2.1 np,keep _ _ _ q4.2.2 np⟩ ⟨keep _ _ _ r4.1 np,keep _ _ _ r4.2.1 np,keep _ _ _ r4.2.2 np⟩
  show Calls Tryz.prog 143 #[x.val.2.1,y.val.2.1,.pointer (some ⟨pb,0,none⟩)] _ _
  rw [ea,eb]
  exact this
 have hcon:=Any.slices_SortFunc Tryz.sortRows (fun x:{x // x∈vis}=>x.val.2.1) enc1 (fun x y=>cmpT x.val.1.1 x.val.1.2.1 x.val.1.2.2 y.val.1.1 y.val.1.2.1 y.val.1.2.2) hcf 143 #[.pointer (some ⟨pb,0,none⟩)] g 0 c vis.attach.toArray w (enters_of Tryz.func143 (by kernel_rfl) rfl) hlays hH hgb.2 (by simp;omega)
 change Calls Tryz.prog 174 _ _ _ at hcon
 rw [show vis.attach.toArray.size=vis.length by simp] at hcon
 refine hcon.mono ?_
 rintro e w' ⟨rfl,d',m,os,hpm,hs,rfl⟩
 have hsz:d'.size=vis.length:=by simpa using hpm.1
 refine ⟨rfl,d'.toList.map (fun x=>x.val), ?_, ?_, ?_,grown_sorted1 _ d'⟩
 ·have h3:=hpm.2.2
  have e1:(d'.extract 0 vis.length).toList=d'.toList:=by
   rw [← hsz]
   simp
  have e2:(vis.attach.toArray.extract 0 vis.length).toList=vis.attach:=by
   simp
   exact List.take_of_length_le (by simp)
  rw [e1,e2] at h3
  have h4:=h3.map (fun x=>x.val)
  rw [List.attach_map_subtype_val] at h4
  exact h4
 ·rw [List.pairwise_map,List.pairwise_iff_getElem]
  intro i j hi hj hij
  have:=hs i j (Nat.zero_le _) hij (by simpa [hsz] using hj)
  have hi2:i<d'.size:=by simpa using hi
  have hj2:j<d'.size:=by simpa using hj
  rw [getElem!_pos d' i hi2,getElem!_pos d' j hj2] at this
  unfold ltOf at this
  rw [decide_eq_false_iff_not,cmpT_lt] at this
  simpa using this
 ·intro i hi
  have hi2:i<d'.size:=by simpa using hi
  have h9:=(holds_sortWorld _ w g 0 m vis.attach.toArray d' os hgb.2 hH (by simpa using hsz) i hi2).1
  rw [Nat.zero_add] at h9
  rw [h9,getElem!_pos d' i hi2]
  simp
end Go.Proofs.YtgpjaecgkkgehaaGreatDoor
namespace Go.Proofs.YtgpjaecgkkgehaaGreatDoor
open Go.RowKit Go.Shelf Go.ChangeMaps
theorem RowAt.kept {w w':World} {gp n:Nat} {x:((Int×Int×Int)×Value×Nat)} (h:RowAt w gp n x) (hb:Below w.heap.size w w'):RowAt w' gp n x:=by
 obtain ⟨g,m,c,i,h1,h2,h3,h4,h5⟩:=h
 exact ⟨g,m,c,i,h1,h2,cl_kept hb h3,h4,cl_kept hb h5.1,cl_kept hb h5.2.1,cl_kept hb h5.2.2⟩
theorem own_slice {w:World} {base e n:Nat} {v:Value} {xs:List Value} (h:w.ownsRow base e 1 v n xs) (hn:0<n):∃ g q,v=.slice (some ⟨g,0,none⟩) n q:=by
 rcases h.2 with ⟨_,h0⟩ | ⟨g,cap,cur,hv,_⟩
 ·omega
 ·exact ⟨g,cap,hv⟩
def SRows (w w':World) (ls:List ((Int×Int×Int)×Value×Nat)) (e:Ending):Prop := ∃ (g c:Nat) (vis:List ((Int×Int×Int)×Value×Nat)),e=.returned (.slice (some ⟨g,0,none⟩) vis.length c)∧vis.Perm ls∧vis.Pairwise (fun x y=>¬ ltT y.1 x.1)∧(∀ i (hi:i<vis.length),w'.cell? ⟨g,i,none⟩=some vis[i].2.1)∧w.heap.size≤g∧Below w.heap.size w w'
set_option maxRecDepth 100000 in
set_option maxHeartbeats 1600000 in
theorem sortedRows_any (w:World) (Bm rm c pb gp n pc:Nat) (ls:List ((Int×Int×Int)×Value×Nat)) (hG:TGood ls c) (h0:ls≠[]) (hlen:ls.length≤300) (hd:w.cell? ⟨Bm,0,none⟩=some (.map (some rm))) (hm:TEM w rm ls c) (hp:w.cell? ⟨pb,4,none⟩=some (.slice (some ⟨gp,0,none⟩) n pc)) (hgp:gp<w.heap.size) (hR:∀ x∈ls,RowAt w gp n x) :
  Calls Tryz.prog 141 #[.func (.func 175) #[] #[.pointer (some ⟨Bm,0,none⟩)],.func (.func 143) #[] #[.pointer (some ⟨pb,0,none⟩)]] w fun e w'=>SRows w w' ls e:=by
 have hsl:∀ x∈ls,∃ a n q,x.2.1=.slice a n q:=fun x hx=>by
  obtain ⟨g,m,c,i,h1,_⟩:=hR x hx
  exact ⟨_,_,_,h1⟩
 have C1:Hid (Calls Tryz.prog 173 #[.func (.func 175) #[] #[.pointer (some ⟨Bm,0,none⟩)]] w fun e w'=>∃ v,e=.returned v∧Gath w w' ls v):=collect_any Bm rm c ls hG hsl hlen w hd hm
 have zp:pb<w.heap.size:=World.block_lt_of_cell? _ _ hp
 have HS:Hid (∀ (w1:World) (g q:Nat) (vis:List ((Int×Int×Int)×Value×Nat)),vis.Perm ls→w1.ownsRow w.heap.size 22 1 (.slice (some ⟨g,0,none⟩) vis.length q) vis.length (valsOf vis)→Below w.heap.size w w1→Calls Tryz.prog 174 #[.slice (some ⟨g,0,none⟩) vis.length q,.func (.func 143) #[] #[.pointer (some ⟨pb,0,none⟩)]] w1 fun e w'=>e=.returned (.tuple #[])∧∃ vis':List ((Int×Int×Int)×Value×Nat),vis'.Perm vis∧vis'.Pairwise (fun x y=>¬ ltT y.1 x.1)∧(∀ i (hi:i<vis'.length),w'.cell? ⟨g,i,none⟩=some vis'[i].2.1)∧w1.grownBy w' (some g)):=fun w1 g q vis hpm hown hb=>by
  refine sortRows_any w1 w.heap.size g q pb gp n pc vis hown (fun e=>h0 (by rw [e] at hpm;exact hpm.symm.eq_nil)) (by rw [hpm.length_eq];exact hlen) (cl_kept hb hp) (fun x hx=>(hR x (hpm.mem_iff.1 hx)).kept hb) ⟨zp,hgp⟩ (fun x hx e=>?_)
  obtain ⟨g3,m3,c3,i3,h1,_,h3,_⟩:=hR x (hpm.mem_iff.1 hx)
  rw [h1] at e
  simp only [Value.ownBlock,Option.some.injEq] at e
  have z3:g3<w.heap.size:=World.block_lt_of_cell? _ _ h3
  have z4:=(hown.lt g rfl).1
  omega
 have H0:Hid (ls≠[]):=h0
 clear hG hd hm hp hR hsl h0
 go_enter Tryz.func141,Tryz.ntmps141
 go_wp2_with (first | (go_at_call 173;refine C1.out.mono ?_;rintro e w1 ⟨v,rfl,vis,hpm,hown,hb⟩;obtain ⟨g,q,rfl⟩:∃ g q,v=.slice (some ⟨g,0,none⟩) vis.length q:=(own_slice hown (List.length_pos_iff.2 (fun e=>H0.out (by rw [e] at hpm;exact hpm.symm.eq_nil))));have HV:Hid (vis.Perm ls∧w1.ownsRow w.heap.size 22 1 (.slice (some ⟨g,0,none⟩) vis.length q) vis.length (valsOf vis)∧Below w.heap.size w w1):=⟨hpm,hown,hb⟩;clear hpm hown hb) | (go_at_call 174;refine (HS.out _ _ _ _ HV.out.1 HV.out.2.1 HV.out.2.2).mono ?_;rintro e w2 ⟨rfl,vis',h1,h2,h3,h4⟩;have HF:Hid (vis'.Perm vis∧vis'.Pairwise (fun x y=>¬ ltT y.1 x.1)∧(∀ i (hi:i<vis'.length),w2.cell? ⟨g,i,none⟩=some vis'[i].2.1)∧w1.grownBy w2 (some g)):=⟨h1,h2,h3,h4⟩;clear h1 h2 h3 h4))
 go_ret
 have hl:vis.length=vis'.length:=HF.out.1.length_eq.symm
 have zb:=(HV.out.2.1.lt g rfl).1
 exact ⟨g,q,vis',by simp [hl],HF.out.1.trans HV.out.1,HF.out.2.1,HF.out.2.2.1,zb,HV.out.2.2.grown HF.out.2.2.2 HV.out.2.2.size (fun r e=>by cases e;exact zb)⟩
end Go.Proofs.YtgpjaecgkkgehaaGreatDoor
namespace Go.Proofs.YtgpjaecgkkgehaaGreatDoor
theorem good_walk {kd:Int×Int×Int×Int→Int} {L:List (Int×Int×Int)} {M:Nat→M6} (h0:0<L.length) (hL:L.length≤300) (hbd:∀ t∈L,(0≤t.1∧t.1≤8)∧(0≤t.2.1∧t.2.1≤8)∧(0≤t.2.2∧t.2.2≤3)) (hC:Cons kd L M) :
  ∀ m,m≤L.length→∃ K:List Nat,K.Nodup∧0∈K∧(∀ i∈K,i<L.length∧GoodM (M i) (160*(K.length:Int)))∧(m+1≤K.length∨∀ i j (hi:i<L.length) (hj:j<L.length),i∈K→Adj L[i] L[j]→j∈K)
 | 0,_=>⟨[0],by simp,by simp,fun i hi=>by
   simp at hi
   subst hi
   rw [hC.1]
   exact ⟨h0,idM_good.mono (by simp)⟩,Or.inl (by simp)⟩
 | m+1,hm=>by
  obtain ⟨K,h1,h2,h3,h4⟩:=good_walk h0 hL hbd hC m (by omega)
  by_cases hc:∀ i j (hi:i<L.length) (hj:j<L.length),i∈K→Adj L[i] L[j]→j∈K
  ·exact ⟨K,h1,h2,h3,Or.inr hc⟩
  ·have hlen:m+1≤K.length:=h4.resolve_right hc
   have:∃ i j,∃ (hi:i<L.length) (hj:j<L.length),i∈K∧Adj L[i] L[j]∧j ∉ K:=by
    refine Classical.byContradiction fun hno=>hc fun i j hi hj hiK ha=>Classical.byContradiction fun hjK=>hno ⟨i,j,hi,hj,hiK,ha,hjK⟩
   obtain ⟨i,j,hi,hj,hiK,ha,hjK⟩:=this
   obtain ⟨_,e,he1,he2⟩:=ha
   have hKL:K.length≤L.length:=nodup_len _ _ h1 (fun i hi=>(h3 i hi).1)
   refine ⟨K ++ [j],snoc_nodup h1 hjK,List.mem_append_left _ h2,fun q hq=>?_,Or.inl (by simp;omega)⟩
   rw [List.length_append,List.length_singleton]
   rcases List.mem_append.1 hq with hq | hq
   ·exact ⟨(h3 q hq).1,(h3 q hq).2.mono (by omega)⟩
   ·simp at hq
    subst hq
    refine ⟨hj, ?_⟩
    rw [hC.2 i q hi hj e (fun e=>hjK (e ▸ hiK)) he1 he2]
    exact (far_good he1 (hbd _ (List.getElem_mem hi)) (h3 i hiK).2 (by omega)).mono (by omega)
theorem cons_good {kd:Int×Int×Int×Int→Int} {L:List (Int×Int×Int)} {M:Nat→M6} (hJ:Joined L) (hnd:L.Nodup) (hL:L.length≤300) (hbd:∀ t∈L,(0≤t.1∧t.1≤8)∧(0≤t.2.1∧t.2.1≤8)∧(0≤t.2.2∧t.2.2≤3)) (hC:Cons kd L M):∀ i,i<L.length→GoodM (M i) 48000:=fun i hi=>by
 obtain ⟨K,h1,h2,h3,h4⟩:=good_walk hJ.1 hL hbd hC L.length (Nat.le_refl _)
 have hKL:K.length≤L.length:=nodup_len _ _ h1 (fun i hi=>(h3 i hi).1)
 have hcl:=h4.resolve_left (by omega)
 have:=closed_all hJ hnd (· ∈ K) h2 hcl i hi
 exact ((h3 i this).2).mono (by omega)
open Go.RowKit
def pbox (w:World) (ad:Option Addr) (n cc ra rk:Nat) (vm vp:Value):World:=w.alloc (.cells #[.slice ad n cc,.map (some ra),.map (some rk),vm,vp] 70)
set_option maxRecDepth 100000 in
set_option maxHeartbeats 3200000 in
theorem fits_any (w:World) (cc ra rk gm cm:Nat) (ad pa:Option Addr) (pn pc:Nat) (L:List (Int×Int×Int)) (kd:Int×Int×Int×Int→Int) (M:Nat→M6) (hs:Steps w) (hPA:PA w ad ra L) (hK:KL w rk kd) (hL:L.length≤300) (hbd:∀ t∈L,(0≤t.1∧t.1≤8)∧(0≤t.2.1∧t.2.1≤8)∧(0≤t.2.2∧t.2.2≤3)) (hM:MRow w gm L.length M) (hC:Cons kd L M) (hG:∀ i,i<L.length→GoodM (M i) 48000) :
  Calls Tryz.prog 103 #[.agg #[.slice ad L.length cc,.map (some ra),.map (some rk),.slice (some ⟨gm,0,none⟩) L.length cm,.slice pa pn pc]] w fun e w'=>e=.returned (.bool true)∧Below w.heap.size w w':=by
 have HJN:Hid (∀ (W':World) (i:Nat) (hi:i<L.length),Below w.heap.size w W'→Calls Tryz.prog 122 #[.agg #[.slice ad L.length cc,.map (some ra),.map (some rk)],.int .i64 (i:Int)] W' fun e w'=>∃ v,e=.returned v∧w'.ownsRow (W'.heap.size+1) 109 5 v (jl L L[i] i 3).length (flatJ (jl L L[i] i 3))∧Below W'.heap.size W' w'):=fun W' i hi hW'=>joints_any W' cc ra rk i ad L L[i].1 L[i].2.1 L[i].2.2 (hs.kept hW') (hPA.kept hW') hi rfl hL (hbd _ (List.getElem_mem hi))
 have HBY:Hid (∀ (W':World) (i:Nat) (hi:i<L.length) (p q r s A B C D E F:Int),Below w.heap.size w W'→hasT L[i] (p,q,r,s)=true→GoodM (A,B,C,D,E,F) 800000→Calls Tryz.prog 129 #[.agg #[.slice ad L.length cc,.map (some ra),.map (some rk)],.agg #[.int .i64 p,.int .i64 q,.int .i64 r,.int .i64 s],.agg #[.int .i64 A,.int .i64 B,.int .i64 C,.int .i64 D,.int .i64 E,.int .i64 F]] W' fun e w'=>e=.returned (mv (farM kd (p,q,r,s) (A,B,C,D,E,F)))∧Below W'.heap.size W' w'):=fun W' i hi p q r s A B C D E F hW' hh hm =>
  beyond_any W' ad L.length cc ra rk kd p q r s A B C D E F (hK.kept hW') (edge_bd hh (hbd _ (List.getElem_mem hi))).1 (edge_bd hh (hbd _ (List.getElem_mem hi))).2.1 (line_may hh (hbd _ (List.getElem_mem hi))) hm
 have HC:Hid (Cons kd L M∧MRow w gm L.length M∧∀ i,i<L.length→GoodM (M i) 48000):=⟨hC,hM,hG⟩
 have hn:=neqM
 clear hs hPA hK hbd hM hC hG
 obtain ⟨w0,hw0⟩:∃ W,W=pbox w ad L.length cc ra rk (.slice (some ⟨gm,0,none⟩) L.length cm) (.slice pa pn pc):=⟨_,rfl⟩
 have hx:w0.cell? ⟨w.heap.size,0,none⟩=some (.slice ad L.length cc)∧w0.cell? ⟨w.heap.size,1,none⟩=some (.map (some ra))∧w0.cell? ⟨w.heap.size,2,none⟩=some (.map (some rk))∧w0.cell? ⟨w.heap.size,3,none⟩=some (.slice (some ⟨gm,0,none⟩) L.length cm):=by
  rw [hw0]
  simp [pbox,go_sem]
 have HX:Hid (w0.cell? ⟨w.heap.size,0,none⟩=some (.slice ad L.length cc)∧w0.cell? ⟨w.heap.size,1,none⟩=some (.map (some ra))∧w0.cell? ⟨w.heap.size,2,none⟩=some (.map (some rk))∧w0.cell? ⟨w.heap.size,3,none⟩=some (.slice (some ⟨gm,0,none⟩) L.length cm)):=hx
 clear hx
 have hb0:Below w.heap.size w w0:=by
  rw [hw0]
  exact bl_alloc (bl_refl _)
 have HB0:Hid (Below w.heap.size w w0):=hb0
 clear hb0
 have hw0':w.alloc (.cells #[.slice ad L.length cc,.map (some ra),.map (some rk),.slice (some ⟨gm,0,none⟩) L.length cm,.slice pa pn pc] 70)=w0:=hw0.symm
 have HW0:Hid (w.alloc (.cells #[.slice ad L.length cc,.map (some ra),.map (some rk),.slice (some ⟨gm,0,none⟩) L.length cm,.slice pa pn pc] 70)=w0):=hw0'
 clear hw0 hw0'
 go_enter Tryz.func103,Tryz.ntmps103
 go_wp2
 go_loopg [10] L.length (fun gk s10 wx=>∃ i:Nat,i≤L.length∧gk=L.length - i∧s10=.int .i64 (i:Int)∧Below w0.heap.size w0 wx)
 case atStart=>exact ⟨0,by omega,rfl,rfl,by rw [HW0.out];exact bl_refl _⟩
 case round =>
  obtain ⟨i,hi,rfl,rfl,hB⟩:=hrel
  have HB:Hid (Below w0.heap.size w0 wr):=hB
  clear hB
  by_cases h1:i<L.length
  ·have i1:(i:Int)<(L.length:Int):=by omega
   have i0:(0:Int)≤(i:Int):=by omega
   obtain ⟨J,hJ⟩:∃ J,J=jl L L[i] i 3:=⟨_,rfl⟩
   have hJl:J.length≤900:=by
    have:=jl_len L L[i] i 3
    rw [hJ]
    omega
   have CJ:Hid (∀ W':World,Below wr.heap.size wr W'→Calls Tryz.prog 122 #[.agg #[.slice ad L.length cc,.map (some ra),.map (some rk)],.int .i64 (i:Int)] W' fun e w'=>∃ v,e=.returned v∧w'.ownsRow (W'.heap.size+1) 109 5 v J.length (flatJ J)∧Below W'.heap.size W' w'):=fun W' hW'=>by
    rw [hJ]
    exact HJN.out W' i h1 (bl_via HB0.out (bl_via HB.out hW'))
   have HJ:Hid (J=jl L L[i] i 3):=hJ
   clear hJ
   have p0:=cl_kept HB.out HX.out.1
   have p1:=cl_kept HB.out HX.out.2.1
   have p2:=cl_kept HB.out HX.out.2.2.1
   have zp:w.heap.size<wr.heap.size:=World.block_lt_of_cell? _ _ p0
   go_wp2_with (go_at_call 122;refine (CJ.out _ (by with_reducible exact bl_refl _)).mono ?_;rintro e w8 ⟨v8,rfl,hown,hb⟩;obtain ⟨ja,jc,rfl,hjr⟩:=own_jw hown;have HW8:Hid (JW w8 (wr.heap.size+1) ja J∧Below w0.heap.size w0 w8):=⟨hjr,bl_via HB.out hb⟩;clear hown hjr hb)
   clear p0 p1 p2 zp
   go_loopg [18] J.length (fun gk s18 wx=>∃ m:Nat,m≤J.length∧gk=J.length - m∧s18=.int .i64 (m:Int)∧Below w8.heap.size w8 wx)
   case atStart=>exact ⟨0,by omega,rfl,rfl,bl_refl _⟩
   case round =>
    obtain ⟨m,hm,rfl,rfl,hB⟩:=hrel
    have HBw:Hid (Below w0.heap.size w0 wr∧Below w8.heap.size w8 wr):=⟨bl_via HW8.out.2 hB,hB⟩
    clear hB
    by_cases hm1:m<J.length
    ·have im:(m:Int)<(J.length:Int):=by omega
     have im0:(0:Int)≤(m:Int):=by omega
     obtain ⟨jb,rfl,c0,c1,c2,c3,c4⟩:=(HW8.out.1.kept HBw.out.2).1 m hm1
     have zjb:jb<wr.heap.size:=World.block_lt_of_cell? _ _ c0
     obtain ⟨q,hq⟩:∃ q,q=J[m]:=⟨_,rfl⟩
     obtain ⟨⟨q0,q1,q2,q3⟩,qj⟩:=q
     rw [← hq] at c0 c1 c2 c3 c4
     dsimp only at c0 c1 c2 c3 c4
     have hmem:((q0,q1,q2,q3),qj)∈jl L L[i] i 3:=by rw [← HJ.out,hq];exact List.getElem_mem hm1
     obtain ⟨k,hk,hke,j,hj,rfl,hji,hjt⟩:=jl_mem.1 hmem
     have hit:hasT L[i] (q0,q1,q2,q3)=true:=by rw [hke];exact edg_own _ _
     have hfar:=HC.out.1.2 i j h1 hj (q0,q1,q2,q3) (fun e=>hji e.symm) hit hjt
     obtain ⟨⟨y0,y1,y2,y3,y4,y5⟩,_⟩:=HC.out.2.1 i h1
     obtain ⟨⟨v0,v1,v2,v3,v4,v5⟩,_⟩:=HC.out.2.1 j hj
     have hgi:=(HC.out.2.2 i h1).mono (C:=800000) (by omega)
     obtain ⟨A,B,C,D,E,F,hmi⟩:∃ A B C D E F,M i=(A,B,C,D,E,F):=⟨_,_,_,_,_,_,rfl⟩
     obtain ⟨f0,f1,f2,f3,f4,f5,hmj⟩:∃ f0 f1 f2 f3 f4 f5,M j=(f0,f1,f2,f3,f4,f5):=⟨_,_,_,_,_,_,rfl⟩
     rw [hmi] at y0 y1 y2 y3 y4 y5 hgi hfar
     rw [hmj] at v0 v1 v2 v3 v4 v5 hfar
     dsimp only at y0 y1 y2 y3 y4 y5 v0 v1 v2 v3 v4 v5
     have CB:Hid (∀ W':World,Below wr.heap.size wr W'→Calls Tryz.prog 129 #[.agg #[.slice ad L.length cc,.map (some ra),.map (some rk)],.agg #[.int .i64 q0,.int .i64 q1,.int .i64 q2,.int .i64 q3],.agg #[.int .i64 A,.int .i64 B,.int .i64 C,.int .i64 D,.int .i64 E,.int .i64 F]] W' fun e w'=>e=.returned (.agg #[.int .i64 f0,.int .i64 f1,.int .i64 f2,.int .i64 f3,.int .i64 f4,.int .i64 f5])∧Below W'.heap.size W' w'):=fun W' hW'=>by
      have h:=HBY.out W' i h1 q0 q1 q2 q3 A B C D E F (bl_via HB0.out (bl_via HBw.out.1 hW')) hit hgi
      rw [← hfar] at h
      exact h
     have hsm:sameM f0 f1 f2 f3 f4 f5 f0 f1 f2 f3 f4 f5=true:=by simp [sameM]
     have ij:(j:Int)<(L.length:Int):=by omega
     have ij0:(0:Int)≤(j:Int):=by omega
     clear hmem hke hjt hq hji hit hgi hmi hmj hfar
     go_wp2
     refine wp_named (fun W0 hW0=>?_)
     have HBN:Hid (Below wr.heap.size wr W0):=by
      have:Below wr.heap.size wr W0:=by rw [hW0];exact bl_alloc (bl_refl _)
      exact this
     obtain ⟨B9,hB9⟩:∃ b,b=wr.heap.size:=⟨_,rfl⟩
     have x0:W0.cell? ⟨B9,0,none⟩=some (.int .i64 q0):=by rw [hW0,hB9];simp [go_sem]
     have x1:W0.cell? ⟨B9,1,none⟩=some (.int .i64 q1):=by rw [hW0,hB9];simp [go_sem]
     have x2:W0.cell? ⟨B9,2,none⟩=some (.int .i64 q2):=by rw [hW0,hB9];simp [go_sem]
     have x3:W0.cell? ⟨B9,3,none⟩=some (.int .i64 q3):=by rw [hW0,hB9];simp [go_sem]
     have x4:W0.cell? ⟨B9,4,none⟩=some (.int .i64 (j:Int)):=by rw [hW0,hB9];simp [go_sem]
     clear hW0
     rw [← hB9]
     clear hB9
     have bw:=bl_via HBw.out.1 HBN.out
     have p0:=cl_kept bw HX.out.1
     have p1:=cl_kept bw HX.out.2.1
     have p2:=cl_kept bw HX.out.2.2.1
     have p3:=cl_kept bw HX.out.2.2.2
     have bw2:=bl_via HB0.out bw
     replace y0:=cl_kept bw2 y0
     replace y1:=cl_kept bw2 y1
     replace y2:=cl_kept bw2 y2
     replace y3:=cl_kept bw2 y3
     replace y4:=cl_kept bw2 y4
     replace y5:=cl_kept bw2 y5
     replace v0:=cl_kept bw2 v0
     replace v1:=cl_kept bw2 v1
     replace v2:=cl_kept bw2 v2
     replace v3:=cl_kept bw2 v3
     replace v4:=cl_kept bw2 v4
     replace v5:=cl_kept bw2 v5
     have zW:w.heap.size<W0.heap.size:=World.block_lt_of_cell? _ _ p0
     have zW1:gm<W0.heap.size:=World.block_lt_of_cell? _ _ y0
     have zWB:B9<W0.heap.size:=World.block_lt_of_cell? _ _ x0
     have CB0:Hid (∀ W':World,Below W0.heap.size W0 W'→Calls Tryz.prog 129 #[.agg #[.slice ad L.length cc,.map (some ra),.map (some rk)],.agg #[.int .i64 q0,.int .i64 q1,.int .i64 q2,.int .i64 q3],.agg #[.int .i64 A,.int .i64 B,.int .i64 C,.int .i64 D,.int .i64 E,.int .i64 F]] W' fun e w'=>e=.returned (.agg #[.int .i64 f0,.int .i64 f1,.int .i64 f2,.int .i64 f3,.int .i64 f4,.int .i64 f5])∧Below W'.heap.size W' w'):=fun W' hW'=>CB.out W' (bl_via HBN.out hW')
     clear c0 c1 c2 c3 c4 zjb bw bw2
     have kc:=Kin.cells W0
     have kn:Nonempty (Kin W0):=⟨⟨W0,bl_refl _⟩⟩
     refine wp_region_kin (by kernel_rfl) (by kernel_rfl) ?_
     repeat (go_big_quiet_step ((go_at_call 129;exact kin_of (CB0.out _ (Kin.h _)))))
     refine wpQuiet_nil ?_
     intro wq hw'
     obtain ⟨nq,hw''⟩:=hw'
     have hq:Below W0.heap.size W0 wq:=hw'' ▸ nq.h
     clear hw'' nq kc kn x0 x1 x2 x3 x4 p0 p1 p2 p3 y0 y1 y2 y3 y4 y5 v0 v1 v2 v3 v4 v5
     go_wp2
     go_roundg (J.length - (m+1))
     case measure=>omega
     case rel=>exact ⟨m+1,by omega,rfl,by go_num,bl_via HBw.out.2 (bl_via HBN.out hq)⟩
    ·have im:¬ (m:Int)<(J.length:Int):=by omega
     go_wp2
     go_roundg (L.length - (i+1))
     case measure=>omega
     case rel=>exact ⟨i+1,by omega,rfl,by go_num,HBw.out.1⟩
  ·have i1:¬ (i:Int)<(L.length:Int):=by omega
   go_wp2
   go_ret
   exact ⟨rfl,bl_via HB0.out HB.out⟩
end Go.Proofs.YtgpjaecgkkgehaaGreatDoor
