/- A part of the proof of foldFlat_holds. -/
import Derived.Test.YtgpjaecgkkgehaaGreatDoorQfac
import Derived.Laws.AppendOwn
import Derived.ChangeMaps5
import Derived.Test.YtgpjaecgkkgehaaGreatDoorQfaa
import Derived.Deep.QuietTactic
import Derived.BigQuiet
import Derived.Deep.RegionHeld3
namespace Go.Proofs.YtgpjaecgkkgehaaGreatDoor
open Go.RowKit Go.ChangeMaps
def EM (w:World) (r:Nat) (ls:List ((Int×Int×Int×Int)×Value×Nat)) (clock:Nat):Prop:=w.heap[r]?=some (.map (ls.map toE).toArray clock)
def Good (ls:List ((Int×Int×Int×Int)×Value×Nat)) (clock:Nat):Prop:=(ls.map (fun x=>x.1)).Nodup∧(ls.map (fun x=>x.2.2)).Nodup∧∀ x∈ls,x.2.2<clock
def lk:List ((Int×Int×Int×Int)×Value×Nat)→Int×Int×Int×Int→Option Value
 | [],_=>none
 | x :: r,k=>if x.1=k then some x.2.1 else lk r k
theorem lk_not {k:Int×Int×Int×Int}:∀ {ls:List ((Int×Int×Int×Int)×Value×Nat)},(∀ x∈ls,x.1≠k)→lk ls k=none
 | [],_=>rfl
 | x :: r,h=>by simp [lk,h x (by simp),lk_not (ls:=r) (fun y hy=>h y (by simp [hy]))]
theorem lk_at {k:Int×Int×Int×Int}:∀ {ls:List ((Int×Int×Int×Int)×Value×Nat)} {j:Nat} {x:(Int×Int×Int×Int)×Value×Nat},(ls.map (fun x=>x.1)).Nodup→ls[j]?=some x→x.1=k→lk ls k=some x.2.1
 | [],_,_,_,h,_=>by simp at h
 | y :: r,0,x,_,h,hk=>by
  simp at h
  subst h
  simp [lk,hk]
 | y :: r,j+1,x,hn,h,hk=>by
  simp only [List.getElem?_cons_succ] at h
  simp only [List.map_cons,List.nodup_cons] at hn
  have hne:y.1≠k:=fun e=>hn.1 (List.mem_map.2 ⟨x,List.mem_of_getElem? h,hk.trans e.symm⟩)
  simp [lk,hne,lk_at hn.2 h hk]
theorem lk_push {ls:List ((Int×Int×Int×Int)×Value×Nat)} {k j:Int×Int×Int×Int} {v:Value} {c:Nat} (h:∀ x∈ls,x.1≠k):lk (ls ++ [(k,v,c)]) j=if j=k then some v else lk ls j:=by
 induction ls with
 | nil =>
  by_cases e:j=k
  ·simp [lk,e]
  ·have e':¬ k=j:=fun h=>e h.symm
   simp [lk,e,e']
 | cons y r ih =>
  have ih:=ih (fun x hx=>h x (by simp [hx]))
  simp only [List.cons_append,lk,ih]
  by_cases e:j=k
  ·subst e
   simp [h y (by simp)]
  ·simp [e]
theorem lk_set:∀ {ls:List ((Int×Int×Int×Int)×Value×Nat)} {i:Nat} {x:(Int×Int×Int×Int)×Value×Nat} {k j:Int×Int×Int×Int} {v:Value},(ls.map (fun x=>x.1)).Nodup→ls[i]?=some x→x.1=k→lk (ls.set i (k,v,x.2.2)) j=if j=k then some v else lk ls j
 | [],_,_,_,_,_,_,h,_=>by simp at h
 | y :: r,0,x,k,j,v,_,h,hk=>by
  simp at h
  subst h
  by_cases e:j=k
  ·simp [lk,e]
  ·have e':¬ k=j:=fun h=>e h.symm
   simp [lk,e,hk,e']
 | y :: r,i+1,x,k,j,v,hn,h,hk=>by
  simp only [List.getElem?_cons_succ] at h
  simp only [List.map_cons,List.nodup_cons] at hn
  have hne:y.1≠k:=fun e=>hn.1 (List.mem_map.2 ⟨x,List.mem_of_getElem? h,hk.trans e.symm⟩)
  have ih:=lk_set (j:=j) (v:=v) hn.2 h hk
  simp only [List.set_cons_succ,lk,ih]
  by_cases e:j=k
  ·subst e
   simp [hne]
  ·simp [e]
theorem set_keys {ls:List ((Int×Int×Int×Int)×Value×Nat)} {i:Nat} {x:(Int×Int×Int×Int)×Value×Nat} (h:ls[i]?=some x) (v:Value):(ls.set i (x.1,v,x.2.2)).map (fun x=>x.1)=ls.map (fun x=>x.1)∧(ls.set i (x.1,v,x.2.2)).map (fun x=>x.2.2)=ls.map (fun x=>x.2.2):=by
 constructor
 ·rw [List.map_set]
  exact WideElems.set_self _ _ _ (by simp [h])
 ·rw [List.map_set]
  exact WideElems.set_self _ _ _ (by simp [h])
theorem good_push {ls:List ((Int×Int×Int×Int)×Value×Nat)} {clock:Nat} {k:Int×Int×Int×Int} {v:Value} (hg:Good ls clock) (h:∀ x∈ls,x.1≠k):Good (ls ++ [(k,v,clock)]) (clock+1):=by
 obtain ⟨g1,g2,g3⟩:=hg
 refine ⟨?_, ?_, ?_⟩
 ·rw [List.map_append,List.nodup_append]
  refine ⟨g1,by simp,fun a ha b hb=>?_⟩
  obtain ⟨x,hx,rfl⟩:=List.mem_map.1 ha
  simp at hb
  subst hb
  exact h x hx
 ·rw [List.map_append,List.nodup_append]
  refine ⟨g2,by simp,fun a ha b hb=>?_⟩
  obtain ⟨x,hx,rfl⟩:=List.mem_map.1 ha
  simp at hb
  subst hb
  have:=g3 x hx
  omega
 ·intro x hx
  rcases List.mem_append.1 hx with hx | hx
  ·have:=g3 x hx
   omega
  ·simp at hx
   subst hx
   simp
theorem good_set {ls:List ((Int×Int×Int×Int)×Value×Nat)} {clock i:Nat} {x:(Int×Int×Int×Int)×Value×Nat} (hg:Good ls clock) (h:ls[i]?=some x) (v:Value):Good (ls.set i (x.1,v,x.2.2)) clock:=by
 obtain ⟨g1,g2,g3⟩:=hg
 have hk:=set_keys h v
 refine ⟨hk.1 ▸ g1,hk.2 ▸ g2,fun y hy=>?_⟩
 have:y.2.2∈(ls.set i (x.1,v,x.2.2)).map (fun x=>x.2.2):=List.mem_map.2 ⟨y,hy,rfl⟩
 rw [hk.2] at this
 obtain ⟨z,hz,e⟩:=List.mem_map.1 this
 have:=g3 z hz
 omega
theorem findKey27 (x:Value) (es:List MapEntry) (w:World):(Instr.findKey 81 x es).run Tryz.prog w=(Instr.findAsking 81 x es).run Tryz.prog w:=by
 cases es with
 | nil=>simp [Instr.findKey,run_underlying Tryz.underlying81,Instr.findNow,Instr.findAsking]
 | cons e es=>simp [Instr.findKey,run_underlying Tryz.underlying81,Instr.findNow,Instr.sameNow]
theorem lookup27 {T E:TypeId} {z:Value} (ht:Tryz.prog.underlying T=some (.map 81 E)) (hz:∀ u:World,(zeroValue E).run Tryz.prog u=.ok z u) {w:World} {r:Nat} {ls:List ((Int×Int×Int×Int)×Value×Nat)} {clock:Nat} (h:EM w r ls clock) (hg:Good ls clock) (k:Int×Int×Int×Int) :
  (Instr.lookup T (.map (some r)) (ek k) false).run Tryz.prog w=.ok ((lk ls k).getD z) w:=by
 unfold EM at h
 have hf:=fun em=>check27 em k w
 rcases find27 k w ls 0 with ⟨h1,h2⟩ | ⟨j,x,h1,h2,h3⟩
 ·rw [lk_not h2]
  have h1':(Instr.findKey 81 (ek k) (ls.map toE)).run Tryz.prog w=.ok none w:=(findKey27 _ _ _).trans h1
  simp [Instr.lookup,run_underlying ht,MapKept.run_getObj_map h,hf,h1',hz,Result.andThen]
 ·rw [lk_at hg.1 h2 h3]
  have h1':(Instr.findKey 81 (ek k) (ls.map toE)).run Tryz.prog w=.ok (some (j,x.2.1)) w:=(findKey27 _ _ _).trans (by simpa using h1)
  simp [Instr.lookup,run_underlying ht,MapKept.run_getObj_map h,hf,h1',Result.andThen]
theorem grown_set {w:World} {r:Nat} {es:Array MapEntry} {c:Nat} (h:w.heap[r]?=some (.map es c)) (o:Obj):w.grownBy (setBlock w r o) (some r) :=
 ⟨rfl,rfl,rfl,by simp [setBlock],fun _ _ hi=>heap_setBlock_other h _ (fun e1=>hi (by rw [e1]))⟩
theorem entry27 {T E:TypeId} {z:Value} (ht:Tryz.prog.underlying T=some (.map 81 E)) (hz:∀ u:World,(zeroValue E).run Tryz.prog u=.ok z u) {w:World} {r:Nat} {ls:List ((Int×Int×Int×Int)×Value×Nat)} {clock:Nat} (h:EM w r ls clock) (hg:Good ls clock) (k:Int×Int×Int×Int) :
  ∃ st ls1 clock1,(Instr.mapEntry T (.map (some r)) (ek k)).run Tryz.prog w=.ok (.tuple #[(lk ls k).getD z,goInt st]) (setBlock w r (.map (ls1.map toE).toArray clock1)) ∧
   ∀ val,∃ ls' clock',Good ls' clock'∧(∀ j,lk ls' j=if j=k then some val else lk ls j)∧(ls'.length=ls.length+if lk ls k=none then 1 else 0) ∧
    ∀ w2,EM w2 r ls1 clock1→(Instr.entryStore T (.map (some r)) (goInt st) val).run Tryz.prog w2=.ok () (setBlock w2 r (.map (ls'.map toE).toArray clock')):=by
 have hb:=h
 unfold EM at hb
 have hf:=fun em=>check27 em k w
 rcases find27 k w ls 0 with ⟨h1,h2⟩ | ⟨j,x,h1,h2,h3⟩
 ·have h1':(Instr.findKey 81 (ek k) (ls.map toE)).run Tryz.prog w=.ok none w:=(findKey27 _ _ _).trans h1
  refine ⟨clock,ls ++ [(k,z,clock)],clock+1, ?_,fun val=>⟨ls ++ [(k,val,clock)],clock+1,good_push hg h2,fun j=>lk_push h2,by simp [lk_not h2],fun w2 hw2=>?_⟩⟩
  ·rw [lk_not h2]
   simp [Instr.mapEntry,run_underlying ht,MapKept.run_getObj_map hb,hf,h1',hz,MapKept.run_setObj_map _ hb,Result.andThen,setBlock,toE]
  ·unfold EM at hw2
   have hidx:((ls ++ [(k,z,clock)]).map toE).toArray.findIdx? (fun e=>((e.born:Nat):Int) == ((clock:Nat):Int))=some ls.length:=by
    rw [WideElems.findIdx_arr]
    have hn:(((ls ++ [(k,z,clock)]).map toE).map (fun e=>e.born)).Nodup:=by
     have:=(good_push (v:=z) hg h2).2.1
     rw [List.map_map]
     exact this
    exact WideElems.findIdx_born hn (j:=ls.length) (e0:=toE (k,z,clock)) (by simp)
   have hmod:((ls ++ [(k,z,clock)]).map toE).toArray.modify ls.length (fun e=>{ e with val:=val })=((ls ++ [(k,val,clock)]).map toE).toArray:=by
    apply Array.ext'
    rw [Array.toList_modify]
    have:=WideElems.modify_last (fun e:MapEntry=>{ e with val:=val }) (toE (k,z,clock)) (ls.map toE)
    rw [List.length_map] at this
    simpa [toE] using this
   simp only [Instr.entryStore,Sem.run_bind,MapKept.run_getObj_map hw2,Result.andThen,asInt,asIntOf,goInt,Sem.run_pure,hidx,hmod,MapKept.run_setObj_map _ hw2,setBlock]
 ·have h1':(Instr.findKey 81 (ek k) (ls.map toE)).run Tryz.prog w=.ok (some (j,x.2.1)) w:=(findKey27 _ _ _).trans (by simpa using h1)
  have hj:((ls.map toE).toArray)[j]?=some (toE x):=by simp [h2]
  have hjl:(ls.map toE)[j]?=some (toE x):=by simp [h2]
  have hkx:(toE x).key=ek k:=by simp [toE,h3]
  have hsame:(ls.map toE).toArray.modify j (fun e=>{ e with key:=ek k })=(ls.map toE).toArray:=by
   apply Array.ext'
   rw [Array.toList_modify]
   show (ls.map toE).modify j _=ls.map toE
   rw [modify_eq_set _ _ _ _ hjl]
   have:({ toE x with key:=ek k }:MapEntry)=toE x:=by rw [← hkx]
   rw [this]
   exact WideElems.set_self _ _ _ hjl
  have hst:=stays27 k w
  have e1:lk ls k=some x.2.1:=lk_at hg.1 h2 h3
  refine ⟨x.2.2,ls,clock, ?_,fun val=>⟨ls.set j (x.1,val,x.2.2),clock,good_set hg h2 val,fun i=>by have:=lk_set (j:=i) (v:=val) hg.1 h2 h3;rwa [← h3] at this ⊢,by simp [e1],fun w2 hw2=>?_⟩⟩
  ·rw [e1]
   have hb0:(toE x).born=x.2.2:=rfl
   simp only [Instr.mapEntry,Sem.run_bind,run_underlying ht,MapKept.run_getObj_map hb,hf,h1',Result.andThen,hj,Option.map_some,Option.getD_some,hkx,hst,hsame,MapKept.run_setObj_map _ hb,Sem.run_pure,hb0,setBlock]
  ·unfold EM at hw2
   have hidx:(ls.map toE).toArray.findIdx? (fun e=>((e.born:Nat):Int) == ((x.2.2:Nat):Int))=some j:=by
    rw [WideElems.findIdx_arr]
    have hn:((ls.map toE).map (fun e=>e.born)).Nodup:=by
     rw [List.map_map]
     exact hg.2.1
    exact WideElems.findIdx_born hn (j:=j) (e0:=toE x) hjl
   have hmod:(ls.map toE).toArray.modify j (fun e=>{ e with val:=val })=((ls.set j (x.1,val,x.2.2)).map toE).toArray:=by
    apply Array.ext'
    rw [Array.toList_modify]
    show (ls.map toE).modify j _=(ls.set j (x.1,val,x.2.2)).map toE
    rw [modify_eq_set _ _ _ _ hjl,List.map_set]
    rfl
   simp only [Instr.entryStore,Sem.run_bind,MapKept.run_getObj_map hw2,Result.andThen,asInt,asIntOf,goInt,Sem.run_pure,hidx,hmod,MapKept.run_setObj_map _ hw2,setBlock]
theorem update27 {T E:TypeId} (ht:Tryz.prog.underlying T=some (.map 81 E)) {w:World} {r:Nat} {ls:List ((Int×Int×Int×Int)×Value×Nat)} {clock:Nat} (h:EM w r ls clock) (hg:Good ls clock) (k:Int×Int×Int×Int) (val:Value) :
  ∃ ls' clock',(Instr.mapUpdate T (.map (some r)) (ek k) val).run Tryz.prog w=.ok () (setBlock w r (.map (ls'.map toE).toArray clock'))∧Good ls' clock'∧(∀ j,lk ls' j=if j=k then some val else lk ls j)∧(ls'.length=ls.length+if lk ls k=none then 1 else 0):=by
 have hb:=h
 unfold EM at hb
 have hf:=fun em=>check27 em k w
 rcases find27 k w ls 0 with ⟨h1,h2⟩ | ⟨j,x,h1,h2,h3⟩
 ·have h1':(Instr.findKey 81 (ek k) (ls.map toE)).run Tryz.prog w=.ok none w:=(findKey27 _ _ _).trans h1
  refine ⟨ls ++ [(k,val,clock)],clock+1, ?_,good_push hg h2,fun j=>lk_push h2,by simp [lk_not h2]⟩
  simp [Instr.mapUpdate,run_underlying ht,MapKept.run_getObj_map hb,hf,h1',MapKept.run_setObj_map _ hb,Result.andThen,setBlock,toE]
 ·have h1':(Instr.findKey 81 (ek k) (ls.map toE)).run Tryz.prog w=.ok (some (j,x.2.1)) w:=(findKey27 _ _ _).trans (by simpa using h1)
  have hj:((ls.map toE).toArray)[j]?=some (toE x):=by simp [h2]
  have hjl:(ls.map toE)[j]?=some (toE x):=by simp [h2]
  have hkx:(toE x).key=ek k:=by simp [toE,h3]
  have e1:lk ls k=some x.2.1:=lk_at hg.1 h2 h3
  have hmod:(ls.map toE).toArray.modify j (fun e=>{ e with key:=ek k,val:=val })=((ls.set j (x.1,val,x.2.2)).map toE).toArray:=by
   apply Array.ext'
   rw [Array.toList_modify]
   show (ls.map toE).modify j _=(ls.set j (x.1,val,x.2.2)).map toE
   rw [modify_eq_set _ _ _ _ hjl,List.map_set,← hkx]
   rfl
  have hst:=stays27 k w
  refine ⟨ls.set j (x.1,val,x.2.2),clock, ?_,good_set hg h2 val,fun i=>by have:=lk_set (j:=i) (v:=val) hg.1 h2 h3;rwa [← h3] at this ⊢,by simp [e1]⟩
  simp only [Instr.mapUpdate,Sem.run_bind,run_underlying ht,MapKept.run_getObj_map hb,hf,h1',Result.andThen,hj,Option.map_some,Option.getD_some,hkx,hst,hmod,MapKept.run_setObj_map _ hb,setBlock]
theorem em_made (w:World):EM (w.alloc (.map #[] 0)) w.heap.size [] 0:=(MapKept.heap_alloc w _).1
theorem good_nil:Good [] 0:=⟨by simp,by simp,by simp⟩
open Go.RowKit
def cellsB (W H:Int) (zs:List Int):Bool:=sideB W && sideB H && decide ((zs.length:Int)=W*H) && maskB zs
set_option maxHeartbeats 1600000 in
theorem cellsMay_w (W H:Int) (a:Option Addr) (cap:Nat) (zs:List Int) (c:Value) (w:World) (hW:sideB W=false) :
  Calls Tryz.prog 34 #[.agg #[.int .i64 W,.int .i64 H,.slice a zs.length cap,c]] w fun e w'=>e=.returned (.bool false)∧∃ o,w'=w.alloc o:=by
 have e1:inB W 1 8=false:=by simpa [inB,sideB] using hW
 go_enter Tryz.func34,Tryz.ntmps34
 go_wp2_with (go_at_call 58;refine (inBounds_any _ _ _ _).mono ?_;rintro e w' ⟨rfl,rfl⟩)
 go_ret
 exact ⟨rfl,_,rfl⟩
set_option maxHeartbeats 1600000 in
theorem cellsMay_h (W H:Int) (a:Option Addr) (cap:Nat) (zs:List Int) (c:Value) (w:World) (hW:sideB W=true) (hH:sideB H=false) :
  Calls Tryz.prog 34 #[.agg #[.int .i64 W,.int .i64 H,.slice a zs.length cap,c]] w fun e w'=>e=.returned (.bool false)∧∃ o,w'=w.alloc o:=by
 have e1:inB W 1 8=true:=by simpa [inB,sideB] using hW
 have e2:inB H 1 8=false:=by simpa [inB,sideB] using hH
 go_enter Tryz.func34,Tryz.ntmps34
 go_wp2_with (go_at_call 58;refine (inBounds_any _ _ _ _).mono ?_;rintro e w' ⟨rfl,rfl⟩)
 go_ret
 exact ⟨rfl,_,rfl⟩
set_option maxHeartbeats 1600000 in
theorem cellsMay_l (W H:Int) (a:Option Addr) (cap:Nat) (zs:List Int) (c:Value) (w:World) (hW:sideB W=true) (hH:sideB H=true) (hl:¬ (zs.length:Int)=W*H) :
  Calls Tryz.prog 34 #[.agg #[.int .i64 W,.int .i64 H,.slice a zs.length cap,c]] w fun e w'=>e=.returned (.bool false)∧∃ o,w'=w.alloc o:=by
 have b1:1≤W∧W≤8:=by simpa [sideB] using hW
 have b2:1≤H∧H≤8:=by simpa [sideB] using hH
 have hm:0≤W*H∧W*H≤64:=by
  have h1:W=1∨W=2∨W=3∨W=4∨W=5∨W=6∨W=7∨W=8:=by omega
  rcases h1 with rfl | rfl | rfl | rfl | rfl | rfl | rfl | rfl <;> omega
 have e1:inB W 1 8=true:=by simpa [inB] using b1
 have e2:inB H 1 8=true:=by simpa [inB] using b2
 go_enter Tryz.func34,Tryz.ntmps34
 go_wp2_with (go_at_call 58;refine (inBounds_any _ _ _ _).mono ?_;rintro e w' ⟨rfl,rfl⟩)
 go_ret
 exact ⟨rfl,_,rfl⟩
set_option maxHeartbeats 1600000 in
theorem cellsMay_m (W H:Int) (a:Option Addr) (cap:Nat) (zs:List Int) (c:Value) (w:World) (hW:sideB W=true) (hH:sideB H=true) (hr:Row w a zs) (hl:(zs.length:Int)=W*H) :
  Calls Tryz.prog 34 #[.agg #[.int .i64 W,.int .i64 H,.slice a zs.length cap,c]] w fun e w'=>e=.returned (.bool (maskB zs))∧∃ o,w'=w.alloc o:=by
 have b1:1≤W∧W≤8:=by simpa [sideB] using hW
 have b2:1≤H∧H≤8:=by simpa [sideB] using hH
 have hm:0≤W*H∧W*H≤64:=by
  have h1:W=1∨W=2∨W=3∨W=4∨W=5∨W=6∨W=7∨W=8:=by omega
  rcases h1 with rfl | rfl | rfl | rfl | rfl | rfl | rfl | rfl <;> omega
 have e1:inB W 1 8=true:=by simpa [inB] using b1
 have e2:inB H 1 8=true:=by simpa [inB] using b2
 have HR:Hid (Row w a zs):=hr
 clear hr
 go_enter Tryz.func34,Tryz.ntmps34
 go_wp2_with (go_at_call 58;refine (inBounds_any _ _ _ _).mono ?_;rintro e w' ⟨rfl,rfl⟩)
 go_loopg [3] zs.length (fun g s3 wx=>∃ n:Nat,n≤zs.length∧g=zs.length - n∧s3=.int .i64 n∧(∀ i (hi:i<zs.length),i<n→0≤zs[i]∧zs[i]≤15)∧wx=w.alloc (.cells #[.int .i64 W,.int .i64 H,.slice a zs.length cap,c] 25))
 case atStart=>exact ⟨0,by omega,rfl,rfl,fun i _ h=>by omega,rfl⟩
 case round =>
  obtain ⟨n,hn,rfl,rfl,hp,rfl⟩:=hrel
  have HP:Hid (∀ i (hi:i<zs.length),i<n→0≤zs[i]∧zs[i]≤15):=hp
  clear hp
  by_cases h1:n<zs.length
  ·obtain ⟨b,off,rfl,hc⟩:=HR.out n h1
   have i1:(n:Int)<(zs.length:Int):=by omega
   have i0:(0:Int)≤(n:Int):=by omega
   have u1:(w.alloc (.cells #[.int .i64 W,.int .i64 H,.slice (some ⟨b,off,none⟩) zs.length cap,c] 25)).cell? ⟨b,off+n,none⟩=some (.int .i64 zs[n]):=al_old hc
   obtain ⟨z,hz⟩:∃ z,z=zs[n]:=⟨_,rfl⟩
   rw [← hz] at u1
   clear hc
   have HZ:Hid (z=zs[n]):=hz
   clear hz
   cases g1:inB z 0 15
   ·have HM:Hid (maskB zs=false):=by
     show maskB zs=false
     simp only [maskB,List.all_eq_false,decide_eq_true_eq]
     refine ⟨zs[n],List.getElem_mem h1, ?_⟩
     rw [← HZ.out]
     simpa [inB] using g1
    go_wp2_with (go_at_call 58;refine (inBounds_any _ _ _ _).mono ?_;rintro e w' ⟨rfl,rfl⟩)
    go_ret
    exact ⟨by rw [HM.out];rfl,_,rfl⟩
   ·go_wp2_with (go_at_call 58;refine (inBounds_any _ _ _ _).mono ?_;rintro e w' ⟨rfl,rfl⟩)
    go_roundg (zs.length - (n+1))
    case measure=>omega
    case rel =>
     refine ⟨n+1,by omega,rfl,by go_num,fun i hi h=>?_,rfl⟩
     by_cases e:i=n
     ·subst e
      have:=HZ.out
      simp [inB] at g1
      omega
     ·exact HP.out i hi (by omega)
  ·have i1:¬ (n:Int)<(zs.length:Int):=by omega
   have HM:Hid (maskB zs=true):=by
    show maskB zs=true
    by_cases h:maskB zs=true
    ·exact h
    ·exact (mask_at (by simpa using h) (fun i hi=>HP.out i hi (by omega))).elim
   go_wp2
   go_ret
   exact ⟨by rw [HM.out];rfl,_,rfl⟩
theorem cellsMay_any (W H:Int) (a:Option Addr) (cap:Nat) (zs:List Int) (c:Value) (w:World) (hr:Row w a zs) :
  Calls Tryz.prog 34 #[.agg #[.int .i64 W,.int .i64 H,.slice a zs.length cap,c]] w fun e w'=>e=.returned (.bool (cellsB W H zs))∧∃ o,w'=w.alloc o:=by
 unfold cellsB
 cases hW:sideB W
 ·exact cellsMay_w W H a cap zs c w hW
 cases hH:sideB H
 ·exact cellsMay_h W H a cap zs c w hW hH
 by_cases hl:(zs.length:Int)=W*H
 ·rw [decide_eq_true hl]
  exact cellsMay_m W H a cap zs c w hW hH hr hl
 ·rw [decide_eq_false hl]
  exact cellsMay_l W H a cap zs c w hW hH hl
open Go.RowKit
def shB (z k:Int):Int:=if k=0 then z else if k=1 then z / 2 else if k=2 then z / 4 else z / 8
def bitB (z k:Int):Bool:=decide (shB z k % 2=1)
theorem bit_eq (z k:Int) (h0:0≤z) (h1:z≤15) (k0:0≤k) (k3:k≤3):(bits BinOp.and IntKind.i64 (z / 2 ^ k.toNat) 1 == 1)=bitB z k:=by
 have hz:z=0∨z=1∨z=2∨z=3∨z=4∨z=5∨z=6∨z=7∨z=8∨z=9∨z=10∨z=11∨z=12∨z=13∨z=14∨z=15:=by omega
 have hk:k=0∨k=1∨k=2∨k=3:=by omega
 rcases hz with rfl | rfl | rfl | rfl | rfl | rfl | rfl | rfl | rfl | rfl | rfl | rfl | rfl | rfl | rfl | rfl <;> rcases hk with rfl | rfl | rfl | rfl <;> rfl
set_option maxHeartbeats 1600000 in
theorem hasTri_in (W H x y k z:Int) (b off m cap:Nat) (zs:List Int) (c:Value) (w:World) (hW:1≤W∧W≤8) (hH:1≤H∧H≤8) (hx:0≤x∧x<W) (hy:0≤y∧y<H) (hk:0≤k∧k≤3)
  (hm:y*W+x=(m:Int)) (hl:m<zs.length) (hl2:zs.length≤64) (hyw:0≤y*W∧y*W≤64) (hc:w.cell? ⟨b,off+m,none⟩=some (.int .i64 z)) (hz:0≤z∧z≤15) :
  Calls Tryz.prog 77 #[.agg #[.int .i64 W,.int .i64 H,.slice (some ⟨b,off,none⟩) zs.length cap,c],.agg #[.int .i64 x,.int .i64 y,.int .i64 k]] w fun e w'=>e=.returned (.bool (bitB z k))∧Below w.heap.size w w':=by
 have e1:inB x 0 (W - 1)=true:=by simp [inB];omega
 have e2:inB y 0 (H - 1)=true:=by simp [inB];omega
 have e3:inB k 0 3=true:=by simp [inB];omega
 have HZ:Hid ((bits BinOp.and IntKind.i64 (z / 2 ^ k.toNat) 1 == 1)=bitB z k):=bit_eq z k hz.1 hz.2 hk.1 hk.2
 have i1:(m:Int)<(zs.length:Int):=by omega
 have i0:(0:Int)≤(m:Int):=by omega
 have wW:IntKind.i64.wrap (W - 1)=W - 1:=by rw [IntKind.wrap_i64];omega
 have wH:IntKind.i64.wrap (H - 1)=H - 1:=by rw [IntKind.wrap_i64];omega
 have zb:=World.block_lt_of_cell? _ _ hc
 have wYW:IntKind.i64.wrap (y*W)=y*W:=by rw [IntKind.wrap_i64];omega
 have wYX:IntKind.i64.wrap (y*W+x)=m:=by rw [hm,IntKind.wrap_i64];omega
 have wm:IntKind.i64.wrap (m:Int)=m:=by rw [IntKind.wrap_i64];omega
 go_enter Tryz.func77,Tryz.ntmps77
 go_wp2
 go_quiet (first | (go_at_call 58;refine Calls.quiet_of_same (inBounds_any _ _ _ _)))
 go_wp2
 go_ret
 refine ⟨ret_bool ?_, ?_⟩
 ·exact HZ.out
 ·with_reducible repeat' (first | exact bl_refl _ | refine bl_alloc ?_ | refine bl_drewN ?_ | refine bl_drew ?_)
end Go.Proofs.YtgpjaecgkkgehaaGreatDoor
