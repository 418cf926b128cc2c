/- A part of the proof of stackLays_holds. -/
import Derived.Test.YtgpjaecgkkgehaaGreatDoorQlbf
import Derived.Test.YtgpjaecgkkgehaaGreatDoorQlap
import Derived.Test.YtgpjaecgkkgehaaGreatDoorQlac
import Derived.Ground.SlsfProg
import Derived.Shelf.SlSortCmp.Whole1
import Derived.Test.YtgpjaecgkkgehaaGreatDoorQlao
import Derived.Deep.AppendLies
import Derived.Ground.NamesProg
import Derived.Ground.Names2Prog
import Derived.Shelf.Sort.Plain
import Derived.Shelf.Slices.CompactI
set_option maxRecDepth 100000
set_option maxHeartbeats 40000000
namespace Go.Proofs
open Go.Shelf
def Tryz.sortRows_ren:Go.Shelf.Ren:=⟨fun | 6=>174 | 15=>140 | 14=>198 | 28=>171 | 29=>172 | 20=>206 | 21=>207 | 22=>208 | 23=>209 | 24=>210 | 25=>211 | 26=>212 | 27=>213 | 46=>216 | 47=>193 | 48=>194 | 49=>217 | 50=>218 | 57=>219 | n=>n,fun | 22=>171 | 24=>22 | 25=>205 | 3=>3 | 39=>182 | 0=>0 | 53=>210 | 55=>213 | 4=>4 | 46=>227 | 45=>226 | 50=>177 | 5=>5 | 9=>9 | 66=>246 | 70=>250 | 76=>258 | 77=>259 | n=>n,fun | n=>n⟩
theorem Tryz.sortRows:Go.Proofs.SlLaysF.n6 Tryz.prog Tryz.sortRows_ren:={
 mixed:=by kernel_rfl
 f6:=⟨Tryz.f174.name,by decide,Tryz.func174.trans (congrArg some (by kernel_rfl))⟩
 f14:=⟨Tryz.f198.name,by decide,Tryz.func198.trans (congrArg some (by kernel_rfl))⟩
 f15:=Tryz.func140.trans (congrArg some (by kernel_rfl))
 f20:=⟨Tryz.f206.name,by decide,Tryz.func206.trans (congrArg some (by kernel_rfl))⟩
 f21:=⟨Tryz.f207.name,by decide,Tryz.func207.trans (congrArg some (by kernel_rfl))⟩
 f22:=⟨Tryz.f208.name,by decide,Tryz.func208.trans (congrArg some (by kernel_rfl))⟩
 f23:=⟨Tryz.f209.name,by decide,Tryz.func209.trans (congrArg some (by kernel_rfl))⟩
 f24:=⟨Tryz.f210.name,by decide,Tryz.func210.trans (congrArg some (by kernel_rfl))⟩
 f25:=⟨Tryz.f211.name,by decide,Tryz.func211.trans (congrArg some (by kernel_rfl))⟩
 f26:=⟨Tryz.f212.name,by decide,Tryz.func212.trans (congrArg some (by kernel_rfl))⟩
 f27:=⟨Tryz.f213.name,by decide,Tryz.func213.trans (congrArg some (by kernel_rfl))⟩
 f28:=Tryz.func171.trans (congrArg some (by kernel_rfl))
 f29:=Tryz.func172.trans (congrArg some (by kernel_rfl))
 f46:=⟨Tryz.f216.name,by decide,Tryz.func216.trans (congrArg some (by kernel_rfl))⟩
 f47:=Tryz.func193.trans (congrArg some (by kernel_rfl))
 f48:=Tryz.func194.trans (congrArg some (by kernel_rfl))
 f49:=⟨Tryz.f217.name,by decide,Tryz.func217.trans (congrArg some (by kernel_rfl))⟩
 f50:=⟨Tryz.f218.name,by decide,Tryz.func218.trans (congrArg some (by kernel_rfl))⟩
 f57:=⟨Tryz.f219.name,by decide,Tryz.func219.trans (congrArg some (by kernel_rfl))⟩
 t0:=Tryz.underlying0
 a0:=Tryz.isAgg0
 z0:=Tryz.sizeOf0
 v0:=Tryz.zeroValue0
 t3:=Tryz.underlying3
 a3:=Tryz.isAgg3
 z3:=Tryz.sizeOf3
 v3:=Tryz.zeroValue3
 t4:=Tryz.underlying4
 a4:=Tryz.isAgg4
 z4:=Tryz.sizeOf4
 v4:=Tryz.zeroValue4
 t5:=Tryz.underlying5
 a5:=Tryz.isAgg5
 z5:=Tryz.sizeOf5
 v5:=Tryz.zeroValue5
 t9:=Tryz.underlying9
 a9:=Tryz.isAgg9
 z9:=Tryz.sizeOf9
 v9:=Tryz.zeroValue9
 t22:=Tryz.underlying171
 a22:=Tryz.isAgg171
 z22:=Tryz.sizeOf171
 v22:=Tryz.zeroValue171
 a24:=Tryz.isAgg22
 z24:=Tryz.sizeOf22
 t25:=Tryz.underlying205
 a25:=Tryz.isAgg205
 z25:=Tryz.sizeOf205
 v25:=Tryz.zeroValue205
 t39:=Tryz.underlying182
 a39:=Tryz.isAgg182
 z39:=Tryz.sizeOf182
 v39:=Tryz.zeroValue182
 t45:=Tryz.underlying226
 a45:=Tryz.isAgg226
 z45:=Tryz.sizeOf226
 v45:=Tryz.zeroValue226
 t46:=Tryz.underlying227
 a46:=Tryz.isAgg227
 z46:=Tryz.sizeOf227
 v46:=Tryz.zeroValue227
 t50:=Tryz.underlying177
 a50:=Tryz.isAgg177
 z50:=Tryz.sizeOf177
 v50:=Tryz.zeroValue177
 t53:=Tryz.underlying210
 a53:=Tryz.isAgg210
 z53:=Tryz.sizeOf210
 v53:=Tryz.zeroValue210
 t55:=Tryz.underlying213
 a55:=Tryz.isAgg213
 z55:=Tryz.sizeOf213
 v55:=Tryz.zeroValue213
 t66:=Tryz.underlying246
 a66:=Tryz.isAgg246
 z66:=Tryz.sizeOf246
 v66:=Tryz.zeroValue246
 t70:=Tryz.underlying250
 a70:=Tryz.isAgg250
 z70:=Tryz.sizeOf250
 v70:=Tryz.zeroValue250
 t76:=Tryz.underlying258
 a76:=Tryz.isAgg258
 z76:=Tryz.sizeOf258
 v76:=Tryz.zeroValue258
 t77:=Tryz.underlying259
 a77:=Tryz.isAgg259
 z77:=Tryz.sizeOf259
 v77:=Tryz.zeroValue259 }
end Go.Proofs
namespace Go.Proofs.YtgpjaecgkkgehaaGreatDoor
open Go.RowKit Go.Shelf Go.Lib
open Go.Sort hiding Below
theorem cmpT_lt (s t:Int×Int×Int):cmpT s.1 s.2.1 s.2.2 t.1 t.2.1 t.2.2<0↔ltT s t:=by
 unfold cmpT or2 cmp3 ltT
 repeat' split
 all_goals omega
def RowAt (w:World) (gp n:Nat) (x:((Int×Int×Int)×Value×Nat)):Prop := ∃(g m c i:Nat),x.2.1=.slice (some ⟨g,0,none⟩) m c∧0<m∧w.cell? ⟨g,0,none⟩=some (.int .i64 (i:Int))∧i<n∧At3 w gp (i*3) x.1
theorem Xg {α:Type} [Inhabited α] {w:World} {g m:Nat} {os:Array Obj} (enc : α→Value) (d:Array α):w.grownBy (sortWorld enc w g 0 m d os) (some g):=by
 refine ⟨rfl,rfl,rfl,?_,fun k hk hne=>?_⟩
 ·simp [sortWorld,grow,putRow,mapBlock,Sort.ahead]
 ·unfold sortWorld
  rw [heap_grow_old _ _ (by simpa [putRow,mapBlock,Sort.ahead] using hk)]
  have:g≠k:=fun e=>hne (by rw [e])
  simp [putRow,mapBlock,Sort.ahead,Array.getElem?_modify,this]
theorem sortRows_any (w:World) (base g c pb gp n pc:Nat) (vis:List ((Int×Int×Int)×Value×Nat)) (hown:w.ownsRow base 22 1 (.slice (some ⟨g,0,none⟩) vis.length c) vis.length (valsOf vis)) (h0:vis≠[]) (hz:vis.length≤300)
  (hp:w.cell? ⟨pb,4,none⟩=some (.slice (some ⟨gp,0,none⟩) n pc)) (hR:∀x∈vis,RowAt w gp n x) (hb:pb<base∧gp<base) (hg:∀x∈vis,x.2.1.ownBlock≠some g) :
  Calls Tryz.prog 174 #[.slice (some ⟨g,0,none⟩) vis.length c,.func (.func 143) #[] #[.pointer (some ⟨pb,0,none⟩)]] w fun e w'=>e=.returned (.tuple #[])∧∃vis':List ((Int×Int×Int)×Value×Nat),vis'.Perm vis∧vis'.Pairwise (fun x y=>¬ltT y.1 x.1)∧(∀i (hi:i<vis'.length),w'.cell? ⟨g,i,none⟩=some vis'[i].2.1)∧w.grownBy w' (some g):=by
 obtain ⟨x0,hx0⟩:=List.exists_mem_of_ne_nil vis h0
 letI:Inhabited {x // x∈vis}:=⟨⟨x0,hx0⟩⟩
 have hgb:=hown.lt g rfl
 have enc1:OneCell (fun x:{x // x∈vis}=>x.val.2.1):=fun x=>by
  obtain ⟨ga,m,ca,i,e,_⟩:=hR x.val x.property
  show (x.val.2.1).oneCell'=true
  rw [e]
  rfl
 have hcf:SWO (ltOf (fun x y:{x // x∈vis}=>cmpT x.val.1.1 x.val.1.2.1 x.val.1.2.2 y.val.1.1 y.val.1.2.1 y.val.1.2.2)):={
  irrefl:=fun x=>by
   unfold ltOf
   rw [decide_eq_false_iff_not,cmpT_lt]
   exact J3 _
  trans:=fun x y z h1 h2=>by
   unfold ltOf at *
   rw [decide_eq_true_eq,cmpT_lt] at *
   exact ltT_trans _ _ _ h1 h2
  ntrans:=fun x y z h1 h2=>by
   unfold ltOf at *
   rw [decide_eq_false_iff_not,cmpT_lt] at *
   unfold ltT at *
   omega }
 have hH:Holds (fun x:{x // x∈vis}=>x.val.2.1) w g 0 vis.attach.toArray:=fun j hj=>by
  have hj2:j<vis.length:=by simpa using hj
  refine ⟨?_,?_⟩
  ·have hc:=hown.cellAt j (by omega)
   rw [Nat.zero_add,hc]
   rw [getElem!_pos _ j hj]
   simp [valsOf,hj2]
  ·rcases hown.2 with ⟨h1,_⟩|⟨g',cap,cur,h1,_,h3,_⟩
   ·cases h1
   ·cases h1
    simp [World.frozen?,h3]
 have hlays:CmpLays1 Tryz.prog 143 #[.pointer (some ⟨pb,0,none⟩)] (fun x:{x // x∈vis}=>x.val.2.1) (fun x y=>cmpT x.val.1.1 x.val.1.2.1 x.val.1.2.2 y.val.1.1 y.val.1.2.1 y.val.1.2.2) g 0 vis.attach.toArray.size w:=fun m os dk _ x y=>by
  have hgr:=Xg (w:=w) (g:=g) (m:=m) (os:=os) (fun x:{x // x∈vis}=>x.val.2.1) dk
  have keep:∀b o v,w.cell? ⟨b,o,none⟩=some v→b≠g→(sortWorld (fun x:{x // x∈vis}=>x.val.2.1) w g 0 m dk os).cell? ⟨b,o,none⟩=some v:=fun b o v h hne=>hgr.cell h (by simpa using hne)
  obtain ⟨ga,ma,ca,i,ea,q1,q2,q3,q4⟩:=hR x.val x.property
  obtain ⟨gb,mb,cb,j,eb,r1,r2,r3,r4⟩:=hR y.val y.property
  have na:ga≠g:=fun e=>hg x.val x.property (by rw [ea,e];rfl)
  have nb:gb≠g:=fun e=>hg y.val y.property (by rw [eb,e];rfl)
  have np:gp≠g:=by omega
  have npb:pb≠g:=by omega
  have:=piledCmp_gd (sortWorld (fun x:{x // x∈vis}=>x.val.2.1) w g 0 m dk os) pb gp n pc ga ma ca gb mb cb i j x.val.1 y.val.1 (keep _ _ _ hp npb) q1 r1 (keep _ _ _ q2 na) (keep _ _ _ r2 nb) q3 r3 ⟨keep _ _ _ q4.1 np,keep _ _ _ q4.2.1 np,keep _ _ _ q4.2.2 np⟩ ⟨keep _ _ _ r4.1 np,keep _ _ _ r4.2.1 np,keep _ _ _ r4.2.2 np⟩
  show Calls Tryz.prog 143 #[x.val.2.1,y.val.2.1,.pointer (some ⟨pb,0,none⟩)] _ _
  rw [ea,eb]
  exact this
 have hcon:=Any.slices_SortFunc Tryz.sortRows (fun x:{x // x∈vis}=>x.val.2.1) enc1 (fun x y=>cmpT x.val.1.1 x.val.1.2.1 x.val.1.2.2 y.val.1.1 y.val.1.2.1 y.val.1.2.2) hcf 143 #[.pointer (some ⟨pb,0,none⟩)] g 0 c vis.attach.toArray w (enters_of Tryz.func143 (by kernel_rfl) rfl) hlays hH hgb.2 (by simp;omega)
 change Calls Tryz.prog 174 _ _ _ at hcon
 rw [show vis.attach.toArray.size=vis.length by simp] at hcon
 refine hcon.mono ?_
 rintro e w' ⟨rfl,d',m,os,hpm,hs,rfl⟩
 have hsz:d'.size=vis.length:=by simpa using hpm.1
 refine ⟨rfl,d'.toList.map (fun x=>x.val),?_,?_,?_,Xg _ d'⟩
 ·have h3:=hpm.2.2
  have e1:(d'.extract 0 vis.length).toList=d'.toList:=by
   rw [←hsz]
   simp
  have e2:(vis.attach.toArray.extract 0 vis.length).toList=vis.attach:=by
   simp
   exact List.take_of_length_le (by simp)
  rw [e1,e2] at h3
  have h4:=h3.map (fun x=>x.val)
  rw [List.attach_map_subtype_val] at h4
  exact h4
 ·rw [List.pairwise_map,List.pairwise_iff_getElem]
  intro i j hi hj hij
  have:=hs i j (Nat.zero_le _) hij (by simpa [hsz] using hj)
  have hi2:i<d'.size:=by simpa using hi
  have hj2:j<d'.size:=by simpa using hj
  rw [getElem!_pos d' i hi2,getElem!_pos d' j hj2] at this
  unfold ltOf at this
  rw [decide_eq_false_iff_not,cmpT_lt] at this
  simpa using this
 ·intro i hi
  have hi2:i<d'.size:=by simpa using hi
  have h9:=(holds_sortWorld _ w g 0 m vis.attach.toArray d' os hgb.2 hH (by simpa using hsz) i hi2).1
  rw [Nat.zero_add] at h9
  rw [h9,getElem!_pos d' i hi2]
  simp
end Go.Proofs.YtgpjaecgkkgehaaGreatDoor
namespace Go.Proofs.YtgpjaecgkkgehaaGreatDoor
open Go.RowKit Go.Shelf Go.ChangeMaps
theorem RowAt.kept {w w':World} {gp n:Nat} {x:((Int×Int×Int)×Value×Nat)} (h:RowAt w gp n x) (hb:Bl w w'):RowAt w' gp n x:=by
 obtain ⟨g,m,c,i,h1,h2,h3,h4,h5⟩:=h
 exact ⟨g,m,c,i,h1,h2,Qa hb h3,h4,Qa hb h5.1,Qa hb h5.2.1,Qa hb h5.2.2⟩
theorem own_slice {w:World} {base e n:Nat} {v:Value} {xs:List Value} (h:w.ownsRow base e 1 v n xs) (hn:0<n):∃g q,v=.slice (some ⟨g,0,none⟩) n q:=by
 rcases h.2 with ⟨_,h0⟩|⟨g,cap,cur,hv,_⟩
 ·omega
 ·exact ⟨g,cap,hv⟩
def SRows (w w':World) (ls:List ((Int×Int×Int)×Value×Nat)) (e:Ending):Prop := ∃(g c:Nat) (vis:List ((Int×Int×Int)×Value×Nat)),e=.returned (.slice (some ⟨g,0,none⟩) vis.length c)∧vis.Perm ls∧vis.Pairwise (fun x y=>¬ltT y.1 x.1)∧(∀i (hi:i<vis.length),w'.cell? ⟨g,i,none⟩=some vis[i].2.1)∧w.heap.size≤g∧Bl w w'
theorem sortedRows_any (w:World) (Bm rm c pb gp n pc:Nat) (ls:List ((Int×Int×Int)×Value×Nat)) (hG:TGood ls c) (h0:ls≠[]) (hlen:ls.length≤300) (hd:w.cell? ⟨Bm,0,none⟩=some (.map (some rm))) (hm:TEM w rm ls c) (hp:w.cell? ⟨pb,4,none⟩=some (.slice (some ⟨gp,0,none⟩) n pc)) (hgp:gp<w.heap.size) (hR:∀x∈ls,RowAt w gp n x) :
  Calls Tryz.prog 141 #[.func (.func 175) #[] #[.pointer (some ⟨Bm,0,none⟩)],.func (.func 143) #[] #[.pointer (some ⟨pb,0,none⟩)]] w fun e w'=>SRows w w' ls e:=by
 have hsl:∀x∈ls,∃a n q,x.2.1=.slice a n q:=fun x hx=>by
  obtain ⟨g,m,c,i,h1,_⟩:=hR x hx
  exact ⟨_,_,_,h1⟩
 have C1:Hid (Calls Tryz.prog 173 #[.func (.func 175) #[] #[.pointer (some ⟨Bm,0,none⟩)]] w fun e w'=>∃v,e=.returned v∧Gath w w' ls v):=collect_any Bm rm c ls hG hsl hlen w hd hm
 have zp:pb<w.heap.size:=bk hp
 have HS:Hid (∀(w1:World) (g q:Nat) (vis:List ((Int×Int×Int)×Value×Nat)),vis.Perm ls→w1.ownsRow w.heap.size 22 1 (.slice (some ⟨g,0,none⟩) vis.length q) vis.length (valsOf vis)→Bl w w1→Calls Tryz.prog 174 #[.slice (some ⟨g,0,none⟩) vis.length q,.func (.func 143) #[] #[.pointer (some ⟨pb,0,none⟩)]] w1 fun e w'=>e=.returned (.tuple #[])∧∃vis':List ((Int×Int×Int)×Value×Nat),vis'.Perm vis∧vis'.Pairwise (fun x y=>¬ltT y.1 x.1)∧(∀i (hi:i<vis'.length),w'.cell? ⟨g,i,none⟩=some vis'[i].2.1)∧w1.grownBy w' (some g)):=fun w1 g q vis hpm hown hb=>by
  refine sortRows_any w1 w.heap.size g q pb gp n pc vis hown (fun e=>h0 (by rw [e] at hpm;exact hpm.symm.eq_nil)) (by rw [hpm.length_eq];exact hlen) (Qa hb hp) (fun x hx=>(hR x (hpm.mem_iff.1 hx)).kept hb) ⟨zp,hgp⟩ (fun x hx e=>?_)
  obtain ⟨g3,m3,c3,i3,h1,_,h3,_⟩:=hR x (hpm.mem_iff.1 hx)
  rw [h1] at e
  simp only [Value.ownBlock,Option.some.injEq] at e
  have z3:g3<w.heap.size:=bk h3
  have z4:=(hown.lt g rfl).1
  omega
 have H0:Hid (ls≠[]):=h0
 clear hG hd hm hp hR hsl h0
 go_enter Tryz.func141,Tryz.ntmps141
 go_wp2_with (first|(go_at_call 173;refine C1.out.mono ?_;rintro e w1 ⟨v,rfl,vis,hpm,hown,hb⟩;obtain ⟨g,q,rfl⟩:∃g q,v=.slice (some ⟨g,0,none⟩) vis.length q:=(own_slice hown (List.length_pos_iff.2 (fun e=>H0.out (by rw [e] at hpm;exact hpm.symm.eq_nil))));have HV:Hid (vis.Perm ls∧w1.ownsRow w.heap.size 22 1 (.slice (some ⟨g,0,none⟩) vis.length q) vis.length (valsOf vis)∧Bl w w1):=⟨hpm,hown,hb⟩;clear hpm hown hb)|(go_at_call 174;refine (HS.out _ _ _ _ HV.out.1 HV.out.2.1 HV.out.2.2).mono ?_;rintro e w2 ⟨rfl,vis',h1,h2,h3,h4⟩;have HF:Hid (vis'.Perm vis∧vis'.Pairwise (fun x y=>¬ltT y.1 x.1)∧(∀i (hi:i<vis'.length),w2.cell? ⟨g,i,none⟩=some vis'[i].2.1)∧w1.grownBy w2 (some g)):=⟨h1,h2,h3,h4⟩;clear h1 h2 h3 h4))
 go_ret
 have hl:vis.length=vis'.length:=HF.out.1.length_eq.symm
 have zb:=(HV.out.2.1.lt g rfl).1
 exact ⟨g,q,vis',by simp [hl],HF.out.1.trans HV.out.1,HF.out.2.1,HF.out.2.2.1,zb,HV.out.2.2.grown HF.out.2.2.2 HV.out.2.2.size (fun r e=>by cases e;exact zb)⟩
end Go.Proofs.YtgpjaecgkkgehaaGreatDoor
namespace Go.Proofs
open Go.Shelf
def Tryz.lays189_ren:Go.Shelf.Ren:=⟨fun | 189=>105 | 125=>140 | 257=>139 | 128=>171 | 129=>172 | 294=>162 | 295=>163 | 296=>164 | 297=>165 | 298=>166 | 299=>167 | 216=>168 | 300=>169 | 301=>170 | 328=>192 | 329=>193 | 330=>194 | 331=>195 | 332=>196 | 215=>184 | 343=>205 | n=>n,fun | 28=>22 | 3=>3 | 46=>182 | 0=>0 | 51=>210 | 53=>213 | 4=>4 | 183=>227 | 182=>226 | 131=>177 | 5=>5 | 9=>9 | 218=>246 | 222=>250 | 228=>258 | 229=>259 | n=>n,fun | n=>n⟩
theorem Tryz.lays189:Go.Proofs.Lays.n189 Tryz.prog Tryz.lays189_ren:={
 mixed:=by kernel_rfl
 f125:=Tryz.func140.trans (congrArg some (by kernel_rfl))
 f128:=Tryz.func171.trans (congrArg some (by kernel_rfl))
 f129:=Tryz.func172.trans (congrArg some (by kernel_rfl))
 f189:=Tryz.func105.trans (congrArg some (by kernel_rfl))
 f215:=Tryz.func184.trans (congrArg some (by kernel_rfl))
 f216:=Tryz.func168.trans (congrArg some (by kernel_rfl))
 f257:=Tryz.func139.trans (congrArg some (by kernel_rfl))
 f294:=Tryz.func162.trans (congrArg some (by kernel_rfl))
 f295:=Tryz.func163.trans (congrArg some (by kernel_rfl))
 f296:=Tryz.func164.trans (congrArg some (by kernel_rfl))
 f297:=Tryz.func165.trans (congrArg some (by kernel_rfl))
 f298:=Tryz.func166.trans (congrArg some (by kernel_rfl))
 f299:=Tryz.func167.trans (congrArg some (by kernel_rfl))
 f300:=Tryz.func169.trans (congrArg some (by kernel_rfl))
 f301:=Tryz.func170.trans (congrArg some (by kernel_rfl))
 f328:=Tryz.func192.trans (congrArg some (by kernel_rfl))
 f329:=Tryz.func193.trans (congrArg some (by kernel_rfl))
 f330:=Tryz.func194.trans (congrArg some (by kernel_rfl))
 f331:=Tryz.func195.trans (congrArg some (by kernel_rfl))
 f332:=Tryz.func196.trans (congrArg some (by kernel_rfl))
 f343:=Tryz.func205.trans (congrArg some (by kernel_rfl))
 t0:=Tryz.underlying0
 a0:=Tryz.isAgg0
 z0:=Tryz.sizeOf0
 v0:=Tryz.zeroValue0
 t3:=Tryz.underlying3
 a3:=Tryz.isAgg3
 z3:=Tryz.sizeOf3
 v3:=Tryz.zeroValue3
 t4:=Tryz.underlying4
 a4:=Tryz.isAgg4
 z4:=Tryz.sizeOf4
 v4:=Tryz.zeroValue4
 t5:=Tryz.underlying5
 a5:=Tryz.isAgg5
 z5:=Tryz.sizeOf5
 v5:=Tryz.zeroValue5
 t9:=Tryz.underlying9
 a9:=Tryz.isAgg9
 z9:=Tryz.sizeOf9
 v9:=Tryz.zeroValue9
 t28:=Tryz.underlying22
 a28:=Tryz.isAgg22
 z28:=Tryz.sizeOf22
 v28:=Tryz.zeroValue22
 t46:=Tryz.underlying182
 a46:=Tryz.isAgg182
 z46:=Tryz.sizeOf182
 v46:=Tryz.zeroValue182
 t51:=Tryz.underlying210
 a51:=Tryz.isAgg210
 z51:=Tryz.sizeOf210
 v51:=Tryz.zeroValue210
 t53:=Tryz.underlying213
 a53:=Tryz.isAgg213
 z53:=Tryz.sizeOf213
 v53:=Tryz.zeroValue213
 t131:=Tryz.underlying177
 a131:=Tryz.isAgg177
 z131:=Tryz.sizeOf177
 v131:=Tryz.zeroValue177
 t182:=Tryz.underlying226
 a182:=Tryz.isAgg226
 z182:=Tryz.sizeOf226
 v182:=Tryz.zeroValue226
 t183:=Tryz.underlying227
 a183:=Tryz.isAgg227
 z183:=Tryz.sizeOf227
 v183:=Tryz.zeroValue227
 t218:=Tryz.underlying246
 a218:=Tryz.isAgg246
 z218:=Tryz.sizeOf246
 v218:=Tryz.zeroValue246
 t222:=Tryz.underlying250
 a222:=Tryz.isAgg250
 z222:=Tryz.sizeOf250
 v222:=Tryz.zeroValue250
 t228:=Tryz.underlying258
 a228:=Tryz.isAgg258
 z228:=Tryz.sizeOf258
 v228:=Tryz.zeroValue258
 t229:=Tryz.underlying259
 a229:=Tryz.isAgg259
 z229:=Tryz.sizeOf259
 v229:=Tryz.zeroValue259 }
def Tryz.lays20_ren:Go.Shelf.Ren:=⟨fun | 20=>69 | n=>n,fun | 22=>22 | 3=>3 | 4=>4 | 0=>0 | n=>n,fun | n=>n⟩
theorem Tryz.lays20:Go.Proofs.Lays2.n20 Tryz.prog Tryz.lays20_ren:={
 mixed:=by kernel_rfl
 f20:=Tryz.func69.trans (congrArg some (by kernel_rfl))
 t0:=Tryz.underlying0
 a0:=Tryz.isAgg0
 z0:=Tryz.sizeOf0
 v0:=Tryz.zeroValue0
 t3:=Tryz.underlying3
 a3:=Tryz.isAgg3
 z3:=Tryz.sizeOf3
 v3:=Tryz.zeroValue3
 t4:=Tryz.underlying4
 a4:=Tryz.isAgg4
 z4:=Tryz.sizeOf4
 v4:=Tryz.zeroValue4
 t22:=Tryz.underlying22
 a22:=Tryz.isAgg22
 z22:=Tryz.sizeOf22
 v22:=Tryz.zeroValue22
 i3:=by kernel_rfl }
end Go.Proofs
namespace Go.Proofs.YtgpjaecgkkgehaaGreatDoor
open Go.RowKit Go.Shelf Go.Lib
open Go.Sort hiding Below
theorem filter_lt {α:Type} (p : α→Bool):∀l:List α,(l.filter p).length<l.length↔∃x∈l,p x=false
 | []=>by simp
 | x :: r=>by
  have hle:=List.length_filter_le p r
  by_cases q:p x=true
  ·rw [List.filter_cons_of_pos q,List.length_cons,List.length_cons,Nat.add_lt_add_iff_right,filter_lt p r]
   constructor
   ·rintro ⟨y,hy,e⟩
    exact ⟨y,by simp [hy],e⟩
   ·rintro ⟨y,hy,e⟩
    rcases List.mem_cons.1 hy with rfl|hy
    ·rw [q] at e
     cases e
    ·exact ⟨y,hy,e⟩
  ·rw [List.filter_cons_of_neg q,List.length_cons]
   exact ⟨fun _=>⟨x,by simp,by simpa using q⟩,fun _=>by omega⟩
theorem holds_ints {w:World} {base g c:Nat} {zs:List Int} (h:w.ownsRow base 3 1 (.slice (some ⟨g,0,none⟩) zs.length c) zs.length (ivs zs)):Holds (Value.int .i64) w g 0 zs.toArray:=fun j hj=>by
 have hj2:j<zs.length:=by simpa using hj
 refine ⟨?_,?_⟩
 ·have hc:=h.cellAt j (by omega)
  rw [Nat.zero_add,hc,getElem!_pos _ j hj]
  simp [ivs,hj2]
 ·rcases h.2 with ⟨e,_⟩|⟨g',cap,cur,e,_,h3,_⟩
  ·cases e
  ·cases e
   simp [World.frozen?,h3]
theorem compact_twice (zs:List Int):(Lib.compact (zs.mergeSort fun x y=>decide (x≤y))).length<zs.length↔¬zs.Nodup:=by
 have hp:(zs.mergeSort fun x y=>decide (x≤y)).Perm zs:=List.mergeSort_perm zs _
 have hs:(zs.mergeSort fun x y=>decide (x≤y)).Pairwise (fun x y=>decide (x≤y)=true):=List.pairwise_mergeSort (fun a b c h1 h2=>by simp at *;omega) (fun a b=>by simp;omega) zs
 rw [←hp.nodup_iff,←hp.length_eq]
 generalize (zs.mergeSort fun x y=>decide (x≤y))=s at hs
 unfold Lib.compact Lib.compactUpTo
 rw [List.length_map]
 have h1:=filter_lt (Lib.keeps s.toArray) (List.range s.length)
 rw [List.length_range] at h1
 rw [h1]
 constructor
 ·rintro ⟨i,hi,hk⟩ hnd
  have hi2:=List.mem_range.1 hi
  unfold Lib.keeps at hk
  rw [decide_eq_false_iff_not] at hk
  have h0:i≠0:=fun e=>hk (Or.inl e)
  have he:s.toArray[i]! = s.toArray[i - 1]!:=Classical.byContradiction fun e=>hk (Or.inr e)
  rw [getElem!_pos s.toArray i (by simpa using hi2),getElem!_pos s.toArray (i - 1) (by simp;omega)] at he
  simp only [List.getElem_toArray] at he
  exact List.pairwise_iff_getElem.1 hnd (i - 1) i (by omega) hi2 (by omega) he.symm
 ·intro hnd
  refine Classical.byContradiction fun hno=>hnd ?_
  have hk:∀i,i<s.length→i≠0→s.toArray[i]! ≠ s.toArray[i - 1]!:=fun i hi h0=>by
   have hk2:Lib.keeps s.toArray i=true:=by
    cases hc:Lib.keeps s.toArray i with
    | true=>rfl
    | false=>exact absurd ⟨i,List.mem_range.2 hi,hc⟩ hno
   unfold Lib.keeps at hk2
   rw [decide_eq_true_eq] at hk2
   exact hk2.resolve_left h0
  show s.Pairwise (fun a b=>a≠b)
  rw [List.pairwise_iff_getElem]
  intro i j hi hj hij
  have e1:=hk j hj (by omega)
  rw [getElem!_pos s.toArray j (by simpa using hj),getElem!_pos s.toArray (j - 1) (by simp;omega)] at e1
  simp only [List.getElem_toArray] at e1
  have hs2:=List.pairwise_iff_getElem.1 hs
  have e2:s[j - 1]≤s[j]:=by simpa using hs2 (j - 1) j (by omega) hj (by omega)
  have e3:s[i]≤s[j - 1]:=by
   rcases Nat.lt_or_ge i (j - 1) with q|q
   ·simpa using hs2 i (j - 1) hi (by omega) q
   ·have:i=j - 1:=by omega
    subst this
    exact Int.le_refl _
  omega
theorem sortI_any (g q:Nat) (zs:List Int) (hz:zs.length≤300) (w:World) (hH:Holds (Value.int .i64) w g 0 zs.toArray) (hg:g<w.heap.size) :
  Calls Tryz.prog 105 #[.slice (some ⟨g,0,none⟩) zs.length q] w fun e w'=>e=.returned (.tuple #[])∧∃m os,w'=sortWorld (Value.int .i64) w g 0 m (zs.mergeSort fun x y=>decide (x≤y)).toArray os :=
 Any.slices_Sort_int Tryz.lays189 g 0 q zs w hH hg (by omega)
theorem sortedI_any (Bs c:Nat) (a:Option Addr) (zs:List Int) (h0:0<zs.length) (hz:zs.length≤300) (w:World) (hd:w.cell? ⟨Bs,0,none⟩=some (.slice a zs.length c)) (hr:Row w a zs) :
  Calls Tryz.prog 70 #[.func (.func 106) #[] #[.pointer (some ⟨Bs,0,none⟩)]] w fun e w'=>∃g q,e=.returned (.slice (some ⟨g,0,none⟩) zs.length q)∧zs.length≤q∧Holds (Value.int .i64) w' g 0 (zs.mergeSort fun x y=>decide (x≤y)).toArray∧w.heap.size≤g∧Bl w w':=by
 have C1:Hid (Calls Tryz.prog 104 #[.func (.func 106) #[] #[.pointer (some ⟨Bs,0,none⟩)]] w fun e w'=>∃v,e=.returned v∧GathI w w' zs v):=collectI_any Bs c a zs hz w hd hr
 have HL:Hid (0<zs.length):=h0
 clear hd hr
 go_enter Tryz.func70,Tryz.ntmps70
 go_wp2_with (first|(go_at_call 104;refine C1.out.mono ?_;rintro e w1 ⟨v,rfl,hg⟩;obtain ⟨g,q,rfl⟩:=own_slice hg.1 HL.out;have HG:Hid (GathI w w1 zs (.slice (some ⟨g,0,none⟩) zs.length q)):=hg;clear hg)|(go_at_call 105;refine (sortI_any g q zs hz _ (holds_ints HG.out.1) (HG.out.1.lt g rfl).2).mono ?_;rintro e w2 ⟨rfl,m,os,hw2⟩;have HS:Hid (w2=sortWorld (Value.int .i64) w1 g 0 m (zs.mergeSort fun x y=>decide (x≤y)).toArray os):=hw2;clear hw2))
 go_ret
 have hlen:(zs.mergeSort fun x y=>decide (x≤y)).toArray.size=zs.toArray.size:=by simp
 have hq:zs.length≤q:=by
  rcases HG.out.1.2 with ⟨e,_⟩|⟨g',cap,cur,e,_,_,h4,_⟩
  ·cases e
  ·cases e
   exact h4
 have zb:=(HG.out.1.lt g rfl).1
 refine ⟨g,q,rfl,hq,?_,zb,?_⟩
 ·rw [HS.out]
  exact holds_sortWorld (Value.int .i64) w1 g 0 m zs.toArray _ os (HG.out.1.lt g rfl).2 (holds_ints HG.out.1) hlen
 ·rw [HS.out]
  exact HG.out.2.grown (Xg _ _) HG.out.2.size (fun r e=>by cases e;exact zb)
theorem bl_putRow (w:World) (g k:Nat) (d:Array Int):Below g w (putRow (Value.int .i64) (Sort.ahead w k) g 0 d):=⟨rfl,rfl,rfl,by simp [Sort.ahead],fun i hi=>by
 have:g≠i:=by omega
 simp [putRow,mapBlock,Sort.ahead,Array.getElem?_modify,this]⟩
theorem compI_any (g q:Nat) (zs:List Int) (hz:zs.length≤300) (w:World) (hq:zs.length≤q) (hH:Holds (Value.int .i64) w g 0 (zs.mergeSort fun x y=>decide (x≤y)).toArray) :
  Calls Tryz.prog 69 #[.slice (some ⟨g,0,none⟩) zs.length q] w fun e w'=>e=.returned (.slice (some ⟨g,0,none⟩) (Lib.compact (zs.mergeSort fun x y=>decide (x≤y))).length q)∧Below g w w':=by
 have hl:(zs.mergeSort fun x y=>decide (x≤y)).length=zs.length:=by simp
 have h:=Any.slices_Compact_int Tryz.lays20 g 0 q (zs.mergeSort fun x y=>decide (x≤y)) w hH (by omega) (by omega)
 rw [hl] at h
 refine h.mono ?_
 rintro e w' ⟨rfl,k,rfl⟩
 exact ⟨rfl,bl_putRow _ _ _ _⟩
theorem twice_any (w:World) (a:Option Addr) (c:Nat) (zs:List Int) (h0:0<zs.length) (hz:zs.length≤300) (hr:Row w a zs) :
  Calls Tryz.prog 31 #[.slice a zs.length c] w fun e w'=>e=.returned (.bool (decide (¬zs.Nodup)))∧Bl w w':=by
 have C2:Hid (∀V,V=w.alloc (.cells #[.slice a zs.length c] 22)→Calls Tryz.prog 70 #[.func (.func 106) #[] #[.pointer (some ⟨w.heap.size,0,none⟩)]] V fun e w'=>∃g q,e=.returned (.slice (some ⟨g,0,none⟩) zs.length q)∧zs.length≤q∧Holds (Value.int .i64) w' g 0 (zs.mergeSort fun x y=>decide (x≤y)).toArray∧V.heap.size≤g∧Bl V w'):=fun V hV=>by
  subst hV
  exact sortedI_any w.heap.size c a zs h0 hz _ (by simp [go_sem]) (hr.kept (Qb (Qc _)))
 obtain ⟨m,hm⟩:∃m,m=(Lib.compact (zs.mergeSort fun x y=>decide (x≤y))).length:=⟨_,rfl⟩
 have HB:Hid (decide (m<zs.length)=decide (¬zs.Nodup)):=by
  have h1:=compact_twice zs
  have:decide (m<zs.length)=decide (¬zs.Nodup):=by rw [hm];exact decide_eq_decide.2 h1
  exact this
 have HM:Hid (m=(Lib.compact (zs.mergeSort fun x y=>decide (x≤y))).length):=hm
 obtain ⟨bb,hbb⟩:∃bb,bb=decide (¬zs.Nodup):=⟨_,rfl⟩
 rw [←hbb] at HB ⊢
 clear hr hm hbb
 go_enter Tryz.func31,Tryz.ntmps31
 go_wp2_with (first|(go_at_call 71;refine (valuesI_any _ a zs.length c rfl _).mono ?_;rintro e W1 ⟨rfl,hW1⟩;have HW1:Hid (W1=w.alloc (.cells #[.slice a zs.length c] 22)):=hW1;clear hW1)|(go_at_call 70;refine (C2.out _ HW1.out).mono ?_;rintro e W2 ⟨g,q,rfl,hq,hh,hg,hb⟩;have HQ:Hid (zs.length≤q∧Holds (Value.int .i64) W2 g 0 (zs.mergeSort fun x y=>decide (x≤y)).toArray∧W1.heap.size≤g∧Bl W1 W2):=⟨hq,hh,hg,hb⟩;clear hq hh hg hb)|(go_at_call 69;refine (compI_any g q zs hz _ HQ.out.1 HQ.out.2.1).mono ?_;rintro e W3 ⟨rfl,hb3⟩;have HB3:Hid (Below g W2 W3):=hb3;clear hb3;rw [←HM.out]))
 go_ret
 refine ⟨?_,?_⟩
 ·rw [←HB.out]
  rfl
 ·have e1:Bl w W1:=by rw [HW1.out];exact Qb (Qc _)
  have zz:=e1.size
  have hgg:=HQ.out.2.2.1
  exact (Qe e1 HQ.out.2.2.2).trans (HB3.out.mono (by omega))
end Go.Proofs.YtgpjaecgkkgehaaGreatDoor
