/- A part of the proof of stackLays_holds. -/
import Derived.Test.YtgpjaecgkkgehaaGreatDoorQlac
import Derived.Deep.LoopGhost
import Derived.Deep.DeepCutAuto
import Derived.Deep.CutBlock
import Derived.ArgAppend
import Derived.Laws.AppendOwnNone
import Derived.Deep.QuietTactic
import Derived.BigQuiet
set_option maxRecDepth 100000
set_option maxHeartbeats 40000000
namespace Go.Proofs.YtgpjaecgkkgehaaGreatDoor
open Go.RowKit
def Row (w:World) (a:Option Addr) (zs:List Int):Prop :=
 ∀i (h:i<zs.length),∃b off,a=some ⟨b,off,none⟩∧w.cell? ⟨b,off+i,none⟩=some (.int .i64 zs[i])
theorem Row.kept {w wx:World} {a:Option Addr} {zs:List Int} (h:Row w a zs) (hb:Bl w wx):Row wx a zs:=fun i hi=>by
 obtain ⟨b,off,e,hc⟩:=h i hi
 exact ⟨b,off,e,Qa hb hc⟩
def maskB (zs:List Int):Bool:=zs.all fun z=>decide (0≤z∧z≤15)
def sideB (n:Int):Bool:=decide (1≤n∧n≤8)
theorem Q5 (n:Int) (w:World) :
  Calls Tryz.prog 97 #[.int .i64 n] w fun e w'=>e=.returned (.bool (sideB n))∧w'=w:=by
 go_enter Tryz.func97,Tryz.ntmps97
 go_wp2
 all_goals
  go_ret
  exact ⟨Qz (by rw [Bool.eq_iff_iff];simp_all [sideB]<;>omega),rfl⟩
theorem mask_at {zs:List Int} (h:maskB zs=false) (hp:∀i (hi:i<zs.length),0≤zs[i]∧zs[i]≤15):False:=by
 have:maskB zs=true:=by
  simp only [maskB,List.all_eq_true,decide_eq_true_eq]
  intro z hz
  obtain ⟨i,hi,rfl⟩:=List.getElem_of_mem hz
  exact hp i hi
 rw [this] at h
 exact Bool.noConfusion h
theorem mayMask_len (W H:Int) (a:Option Addr) (cap:Nat) (zs:List Int) (c:Value) (w:World) (hW:sideB W=true) (hH:sideB H=true) (hl:¬(zs.length:Int)=W*H) :
  Calls Tryz.prog 98 #[.agg #[.int .i64 W,.int .i64 H,.slice a zs.length cap,c]] w fun e w'=>e=.returned (.bool false)∧∃o,w'=w.alloc o:=by
 have b1:1≤W∧W≤8:=by simpa [sideB] using hW
 have b2:1≤H∧H≤8:=by simpa [sideB] using hH
 have hm:0≤W*H∧W*H≤64:=by
  have h1:W=1∨W=2∨W=3∨W=4∨W=5∨W=6∨W=7∨W=8:=by omega
  rcases h1 with rfl|rfl|rfl|rfl|rfl|rfl|rfl|rfl<;>omega
 go_enter Tryz.func98,Tryz.ntmps98
 go_wp2
 go_ret
 exact ⟨rfl,_,rfl⟩
theorem Xc (W H:Int) (a:Option Addr) (cap:Nat) (zs:List Int) (c:Value) (w:World) (hW:sideB W=true) (hH:sideB H=true) (hr:Row w a zs) (hl:(zs.length:Int)=W*H) :
  Calls Tryz.prog 98 #[.agg #[.int .i64 W,.int .i64 H,.slice a zs.length cap,c]] w fun e w'=>e=.returned (.bool (maskB zs))∧∃o,w'=w.alloc o:=by
 have b1:1≤W∧W≤8:=by simpa [sideB] using hW
 have b2:1≤H∧H≤8:=by simpa [sideB] using hH
 have hm:0≤W*H∧W*H≤64:=by
  have h1:W=1∨W=2∨W=3∨W=4∨W=5∨W=6∨W=7∨W=8:=by omega
  rcases h1 with rfl|rfl|rfl|rfl|rfl|rfl|rfl|rfl<;>omega
 have HR:Hid (Row w a zs):=hr
 clear hr
 go_enter Tryz.func98,Tryz.ntmps98
 go_wp2
 go_loopg [17] zs.length (fun g s17 wx=>∃n:Nat,n≤zs.length∧g=zs.length-n∧s17=.int .i64 n∧(∀i (hi:i<zs.length),i<n→0≤zs[i]∧zs[i]≤15)∧wx=w.alloc (.cells #[.int .i64 W,.int .i64 H,.slice a zs.length cap,c] 25))
 case atStart=>exact ⟨0,by omega,rfl,rfl,fun i _ h=>by omega,rfl⟩
 case round =>
  obtain ⟨n,hn,rfl,rfl,hp,rfl⟩:=hrel
  have HP:Hid (∀i (hi:i<zs.length),i<n→0≤zs[i]∧zs[i]≤15):=hp
  clear hp
  by_cases h1:n<zs.length
  ·obtain ⟨b,off,rfl,hc⟩:=HR.out n h1
   have i1:(n:Int)<(zs.length:Int):=by omega
   have i0:(0:Int)≤(n:Int):=by omega
   have u1:(w.alloc (.cells #[.int .i64 W,.int .i64 H,.slice (some ⟨b,off,none⟩) zs.length cap,c] 25)).cell? ⟨b,off+n,none⟩=some (.int .i64 zs[n]):=Qh hc
   obtain ⟨z,hz⟩:∃z,z=zs[n]:=⟨_,rfl⟩
   rw [←hz] at u1
   clear hc
   by_cases g1:z<0
   ·have HM:Hid (maskB zs=false):=by
     show maskB zs=false
     simp only [maskB,List.all_eq_false,decide_eq_true_eq]
     exact ⟨zs[n],List.getElem_mem h1,by omega⟩
    go_wp2
    go_ret
    exact ⟨by rw [HM.out];rfl,_,rfl⟩
   ·by_cases g2:15<z
    ·have HM:Hid (maskB zs=false):=by
      show maskB zs=false
      simp only [maskB,List.all_eq_false,decide_eq_true_eq]
      exact ⟨zs[n],List.getElem_mem h1,by omega⟩
     go_wp2
     go_ret
     exact ⟨by rw [HM.out];rfl,_,rfl⟩
    ·go_wp2
     go_roundg (zs.length-(n+1))
     case measure=>omega
     case rel =>
      refine ⟨n+1,by omega,rfl,by go_num,fun i hi h=>?_,rfl⟩
      by_cases e:i=n
      ·subst e;omega
      ·exact HP.out i hi (by omega)
  ·have i1:¬(n:Int)<(zs.length:Int):=by omega
   have HM:Hid (maskB zs=true):=by
    show maskB zs=true
    by_cases h:maskB zs=true
    ·exact h
    ·exact (mask_at (by simpa using h) (fun i hi=>HP.out i hi (by omega))).elim
   go_wp2
   go_ret
   exact ⟨by rw [HM.out];rfl,_,rfl⟩
theorem run_append_nothing {P:Program} (w:World) (t ty e:TypeId) (i:TypeInfo) (ht:P.underlying t=some (.slice e)) (hi:P.info? e=some i) (ao:Option Addr) (c:Nat) :
  (Builtin.append_ #[t,t] ty #[.slice none 0 0,.slice ao 0 c]).run P w=.ok (.slice none 0 0) w:=by
 cases ao<;>simp [Builtin.append_,run_underlying ht,run_sizeOf w hi,Builtin.lenOf,Builtin.firstCells,loadCells,loadCellsFrom]
theorem Jh {P:Program} (w:World) {ops:Array Oper} {rest:List Oper} {o:Oper} {a:Act} {Q:Exit→Act→World→Prop} (hgd:o.guard=none) (s x:Operand) (t:TypeId)
  (ho:o.op=.call { callee:=.builtin .append,args:=#[s,x],argTypes:=#[t,t] })
  (e:TypeId) (i:TypeInfo) (ht:P.underlying t=some (.slice e)) (hi:P.info? e=some i) (ao:Option Addr) (c:Nat)
  (hs:a.eval s=.slice none 0 0) (hx:a.eval x=.slice ao 0 c)
  (h:wpList P ops Q rest (a.put o.dst (.slice none 0 0)) w):wpList P ops Q (o :: rest) a w:=by
 refine wpList_plain hgd fun K hK=>?_
 have hrun:=run_append_nothing (P:=P) w t o.type e i ht hi ao c
 unfold Oper.wp
 simp [execOp,ho,resolve,invoke,builtin,hs,hx,hrun,Result.andThen]
 exact hK _ _ h
def lessB (a b c d:Int):Bool:=decide (a<c∨(a=c∧b<d))
theorem Jm (a b c d:Int) (w:World) :
  Calls Tryz.prog 75 #[.agg #[.int .i64 a,.int .i64 b],.agg #[.int .i64 c,.int .i64 d]] w fun r w'=>r=.returned (.bool (lessB a b c d))∧∃o1 o2,w'=(w.alloc o1).alloc o2:=by
 go_enter Tryz.func75,Tryz.ntmps75
 go_wp2
 all_goals
  go_ret
  exact ⟨Qz (by rw [Bool.eq_iff_iff];simp_all [lessB]<;>omega),_,_,rfl⟩
theorem edgeOf_turn (a b c d:Int) (w:World) (h:lessB c d a b=true) :
  Calls Tryz.prog 79 #[.agg #[.int .i64 a,.int .i64 b],.agg #[.int .i64 c,.int .i64 d]] w fun r w'=>r=.returned (.agg #[.int .i64 c,.int .i64 d,.int .i64 a,.int .i64 b])∧∃o1 o2 o3 o4 o5,w'=((((w.alloc o1).alloc o2).alloc o3).alloc o4).alloc o5:=by
 go_enter Tryz.func79,Tryz.ntmps79
 go_wp2_with (go_at_call 75;refine (Jm _ _ _ _ _).mono ?_;rintro r w' ⟨rfl,o1,o2,rfl⟩)
 exact bodyPost_ret (v:=.agg #[.int .i64 c,.int .i64 d,.int .i64 a,.int .i64 b]) (by simp [results,Tryz.results79,go_sem]) rfl ⟨rfl,_,_,_,_,_,rfl⟩
theorem edgeOf_keep (a b c d:Int) (w:World) (h:lessB c d a b=false) :
  Calls Tryz.prog 79 #[.agg #[.int .i64 a,.int .i64 b],.agg #[.int .i64 c,.int .i64 d]] w fun r w'=>r=.returned (.agg #[.int .i64 a,.int .i64 b,.int .i64 c,.int .i64 d])∧∃o1 o2 o3 o4 o5,w'=((((w.alloc o1).alloc o2).alloc o3).alloc o4).alloc o5:=by
 go_enter Tryz.func79,Tryz.ntmps79
 go_wp2_with (go_at_call 75;refine (Jm _ _ _ _ _).mono ?_;rintro r w' ⟨rfl,o1,o2,rfl⟩)
 exact bodyPost_ret (v:=.agg #[.int .i64 a,.int .i64 b,.int .i64 c,.int .i64 d]) (by simp [results,Tryz.results79,go_sem]) rfl ⟨rfl,_,_,_,_,_,rfl⟩
theorem edge_any (a b c d:Int) (w:World) :
  Calls Tryz.prog 215 #[.agg #[.int .i64 a,.int .i64 b],.agg #[.int .i64 c,.int .i64 d]] w fun r w'=>r=.returned (if lessB c d a b=true then .agg #[.int .i64 c,.int .i64 d,.int .i64 a,.int .i64 b] else .agg #[.int .i64 a,.int .i64 b,.int .i64 c,.int .i64 d])∧∃o1 o2 o3,w'=((w.alloc o1).alloc o2).alloc o3:=by
 by_cases h1:c<a
 ·have e:lessB c d a b=true:=by simp [lessB,h1]
  rw [if_pos e]
  clear e
  go_enter Tryz.func215,Tryz.ntmps215
  go_wp2
  exact bodyPost_ret (v:=.agg #[.int .i64 c,.int .i64 d,.int .i64 a,.int .i64 b]) (by simp [results,Tryz.results215,go_sem]) rfl ⟨rfl,_,_,_,rfl⟩
 by_cases h2:c=a
 ·subst h2
  by_cases h3:d<b
  ·have e:lessB c d c b=true:=by simp [lessB,h3]
   rw [if_pos e]
   clear e
   go_enter Tryz.func215,Tryz.ntmps215
   go_wp2
   exact bodyPost_ret (v:=.agg #[.int .i64 c,.int .i64 d,.int .i64 c,.int .i64 b]) (by simp [results,Tryz.results215,go_sem]) rfl ⟨rfl,_,_,_,rfl⟩
  ·have e:¬lessB c d c b=true:=by simp [lessB,h3]
   rw [if_neg e]
   clear e
   go_enter Tryz.func215,Tryz.ntmps215
   go_wp2
   exact bodyPost_ret (v:=.agg #[.int .i64 c,.int .i64 b,.int .i64 c,.int .i64 d]) (by simp [results,Tryz.results215,go_sem]) rfl ⟨rfl,_,_,_,rfl⟩
 ·have e:¬lessB c d a b=true:=by simp [lessB,h1,h2]
  rw [if_neg e]
  clear e
  go_enter Tryz.func215,Tryz.ntmps215
  go_wp2
  exact bodyPost_ret (v:=.agg #[.int .i64 a,.int .i64 b,.int .i64 c,.int .i64 d]) (by simp [results,Tryz.results215,go_sem]) rfl ⟨rfl,_,_,_,rfl⟩
def eA (a b c d:Int):Int:=if lessB c d a b=true then c else a
def eB (a b c d:Int):Int:=if lessB c d a b=true then d else b
def eC (a b c d:Int):Int:=if lessB c d a b=true then a else c
def eD (a b c d:Int):Int:=if lessB c d a b=true then b else d
theorem edge_num (a b c d:Int) (w:World) :
  Calls Tryz.prog 215 #[.agg #[.int .i64 a,.int .i64 b],.agg #[.int .i64 c,.int .i64 d]] w fun r w'=>r=.returned (.agg #[.int .i64 (eA a b c d),.int .i64 (eB a b c d),.int .i64 (eC a b c d),.int .i64 (eD a b c d)])∧∃o1 o2 o3,w'=((w.alloc o1).alloc o2).alloc o3:=by
 refine (edge_any a b c d w).mono ?_
 rintro r w' ⟨rfl,h⟩
 refine ⟨?_,h⟩
 cases e:lessB c d a b<;>simp [eA,eB,eC,eD,e]
theorem edgeOf_num (a b c d:Int) (w:World) :
  Calls Tryz.prog 79 #[.agg #[.int .i64 a,.int .i64 b],.agg #[.int .i64 c,.int .i64 d]] w fun r w'=>r=.returned (.agg #[.int .i64 (eA a b c d),.int .i64 (eB a b c d),.int .i64 (eC a b c d),.int .i64 (eD a b c d)])∧∃o1 o2 o3 o4 o5,w'=((((w.alloc o1).alloc o2).alloc o3).alloc o4).alloc o5:=by
 cases e:lessB c d a b
 ·refine (edgeOf_keep a b c d w e).mono ?_
  rintro r w' ⟨rfl,h⟩
  exact ⟨by simp [eA,eB,eC,eD,e],h⟩
 ·refine (edgeOf_turn a b c d w e).mono ?_
  rintro r w' ⟨rfl,h⟩
  exact ⟨by simp [eA,eB,eC,eD,e],h⟩
def cellsB (W H:Int) (zs:List Int):Bool:=sideB W && sideB H && decide ((zs.length:Int)=W*H) && maskB zs
theorem cellsMay_w (W H:Int) (a:Option Addr) (cap:Nat) (zs:List Int) (c:Value) (w:World) (hW:sideB W=false) :
  Calls Tryz.prog 34 #[.agg #[.int .i64 W,.int .i64 H,.slice a zs.length cap,c]] w fun e w'=>e=.returned (.bool false)∧∃o,w'=w.alloc o:=by
 have e1:inB W 1 8=false:=by simpa [inB,sideB] using hW
 go_enter Tryz.func34,Tryz.ntmps34
 go_wp2_with (go_at_call 58;refine (Jf _ _ _ _).mono ?_;rintro e w' ⟨rfl,rfl⟩)
 go_ret
 exact ⟨rfl,_,rfl⟩
theorem cellsMay_h (W H:Int) (a:Option Addr) (cap:Nat) (zs:List Int) (c:Value) (w:World) (hW:sideB W=true) (hH:sideB H=false) :
  Calls Tryz.prog 34 #[.agg #[.int .i64 W,.int .i64 H,.slice a zs.length cap,c]] w fun e w'=>e=.returned (.bool false)∧∃o,w'=w.alloc o:=by
 have e1:inB W 1 8=true:=by simpa [inB,sideB] using hW
 have e2:inB H 1 8=false:=by simpa [inB,sideB] using hH
 go_enter Tryz.func34,Tryz.ntmps34
 go_wp2_with (go_at_call 58;refine (Jf _ _ _ _).mono ?_;rintro e w' ⟨rfl,rfl⟩)
 go_ret
 exact ⟨rfl,_,rfl⟩
theorem cellsMay_l (W H:Int) (a:Option Addr) (cap:Nat) (zs:List Int) (c:Value) (w:World) (hW:sideB W=true) (hH:sideB H=true) (hl:¬(zs.length:Int)=W*H) :
  Calls Tryz.prog 34 #[.agg #[.int .i64 W,.int .i64 H,.slice a zs.length cap,c]] w fun e w'=>e=.returned (.bool false)∧∃o,w'=w.alloc o:=by
 have b1:1≤W∧W≤8:=by simpa [sideB] using hW
 have b2:1≤H∧H≤8:=by simpa [sideB] using hH
 have hm:0≤W*H∧W*H≤64:=by
  have h1:W=1∨W=2∨W=3∨W=4∨W=5∨W=6∨W=7∨W=8:=by omega
  rcases h1 with rfl|rfl|rfl|rfl|rfl|rfl|rfl|rfl<;>omega
 have e1:inB W 1 8=true:=by simpa [inB] using b1
 have e2:inB H 1 8=true:=by simpa [inB] using b2
 go_enter Tryz.func34,Tryz.ntmps34
 go_wp2_with (go_at_call 58;refine (Jf _ _ _ _).mono ?_;rintro e w' ⟨rfl,rfl⟩)
 go_ret
 exact ⟨rfl,_,rfl⟩
theorem cellsMay_m (W H:Int) (a:Option Addr) (cap:Nat) (zs:List Int) (c:Value) (w:World) (hW:sideB W=true) (hH:sideB H=true) (hr:Row w a zs) (hl:(zs.length:Int)=W*H) :
  Calls Tryz.prog 34 #[.agg #[.int .i64 W,.int .i64 H,.slice a zs.length cap,c]] w fun e w'=>e=.returned (.bool (maskB zs))∧∃o,w'=w.alloc o:=by
 have b1:1≤W∧W≤8:=by simpa [sideB] using hW
 have b2:1≤H∧H≤8:=by simpa [sideB] using hH
 have hm:0≤W*H∧W*H≤64:=by
  have h1:W=1∨W=2∨W=3∨W=4∨W=5∨W=6∨W=7∨W=8:=by omega
  rcases h1 with rfl|rfl|rfl|rfl|rfl|rfl|rfl|rfl<;>omega
 have e1:inB W 1 8=true:=by simpa [inB] using b1
 have e2:inB H 1 8=true:=by simpa [inB] using b2
 have HR:Hid (Row w a zs):=hr
 clear hr
 go_enter Tryz.func34,Tryz.ntmps34
 go_wp2_with (go_at_call 58;refine (Jf _ _ _ _).mono ?_;rintro e w' ⟨rfl,rfl⟩)
 go_loopg [3] zs.length (fun g s3 wx=>∃n:Nat,n≤zs.length∧g=zs.length-n∧s3=.int .i64 n∧(∀i (hi:i<zs.length),i<n→0≤zs[i]∧zs[i]≤15)∧wx=w.alloc (.cells #[.int .i64 W,.int .i64 H,.slice a zs.length cap,c] 25))
 case atStart=>exact ⟨0,by omega,rfl,rfl,fun i _ h=>by omega,rfl⟩
 case round =>
  obtain ⟨n,hn,rfl,rfl,hp,rfl⟩:=hrel
  have HP:Hid (∀i (hi:i<zs.length),i<n→0≤zs[i]∧zs[i]≤15):=hp
  clear hp
  by_cases h1:n<zs.length
  ·obtain ⟨b,off,rfl,hc⟩:=HR.out n h1
   have i1:(n:Int)<(zs.length:Int):=by omega
   have i0:(0:Int)≤(n:Int):=by omega
   have u1:(w.alloc (.cells #[.int .i64 W,.int .i64 H,.slice (some ⟨b,off,none⟩) zs.length cap,c] 25)).cell? ⟨b,off+n,none⟩=some (.int .i64 zs[n]):=Qh hc
   obtain ⟨z,hz⟩:∃z,z=zs[n]:=⟨_,rfl⟩
   rw [←hz] at u1
   clear hc
   have HZ:Hid (z=zs[n]):=hz
   clear hz
   cases g1:inB z 0 15
   ·have HM:Hid (maskB zs=false):=by
     show maskB zs=false
     simp only [maskB,List.all_eq_false,decide_eq_true_eq]
     refine ⟨zs[n],List.getElem_mem h1,?_⟩
     rw [←HZ.out]
     simpa [inB] using g1
    go_wp2_with (go_at_call 58;refine (Jf _ _ _ _).mono ?_;rintro e w' ⟨rfl,rfl⟩)
    go_ret
    exact ⟨by rw [HM.out];rfl,_,rfl⟩
   ·go_wp2_with (go_at_call 58;refine (Jf _ _ _ _).mono ?_;rintro e w' ⟨rfl,rfl⟩)
    go_roundg (zs.length-(n+1))
    case measure=>omega
    case rel =>
     refine ⟨n+1,by omega,rfl,by go_num,fun i hi h=>?_,rfl⟩
     by_cases e:i=n
     ·subst e
      have:=HZ.out
      simp [inB] at g1
      omega
     ·exact HP.out i hi (by omega)
  ·have i1:¬(n:Int)<(zs.length:Int):=by omega
   have HM:Hid (maskB zs=true):=by
    show maskB zs=true
    by_cases h:maskB zs=true
    ·exact h
    ·exact (mask_at (by simpa using h) (fun i hi=>HP.out i hi (by omega))).elim
   go_wp2
   go_ret
   exact ⟨by rw [HM.out];rfl,_,rfl⟩
theorem cellsMay_any (W H:Int) (a:Option Addr) (cap:Nat) (zs:List Int) (c:Value) (w:World) (hr:Row w a zs) :
  Calls Tryz.prog 34 #[.agg #[.int .i64 W,.int .i64 H,.slice a zs.length cap,c]] w fun e w'=>e=.returned (.bool (cellsB W H zs))∧∃o,w'=w.alloc o:=by
 unfold cellsB
 cases hW:sideB W
 ·exact cellsMay_w W H a cap zs c w hW
 cases hH:sideB H
 ·exact cellsMay_h W H a cap zs c w hW hH
 by_cases hl:(zs.length:Int)=W*H
 ·rw [decide_eq_true hl]
  exact cellsMay_m W H a cap zs c w hW hH hr hl
 ·rw [decide_eq_false hl]
  exact cellsMay_l W H a cap zs c w hW hH hl
structure Kin (W:World) where
 w:World
 h:Bl W w
theorem Kin.cells (W:World):∀(n:Kin W) (b o:Nat),b<W.heap.size→n.w.cell? ⟨b,o,none⟩=W.cell? ⟨b,o,none⟩:=fun n b o hb=>n.h.cell (p:=⟨b,o,none⟩) hb
theorem Qg {P:Program} {id:Nat} {Q:Exit→Act→World→Prop} {a:Act} {W:World} {l:List Oper} (hm:P.follows .mixedOrders=true) (hB:Region.lexB .any l.toArray=true)
  (h:wpQuiet P l.toArray (fun w'=>∃n:Kin W,w'=n.w) (fun a'=>∀w',(∃n:Kin W,w'=n.w)→Q .normal a' w') l a):(Code.region id l.toArray true).wp P Q a W :=
 wp_region_quiet (C:=fun w'=>∃n:Kin W,w'=n.w) hm hB ⟨⟨W.drew,Qf (Qc _)⟩,rfl⟩ (by simpa using h)
theorem Qo {P:Program} {f:FuncId} {args:Array Value} {W:World} {n:Kin W} {v:Value}
  (h:Calls P f args n.w fun e w'=>e=.returned v∧Below n.w.heap.size n.w w'):Calls P f args n.w fun e w''=>e=.returned v∧∃m:Kin W,w''=m.w :=
 h.mono fun _ w' ⟨he,hb⟩=>⟨he,⟨w',Qe n.h hb⟩,rfl⟩
theorem Qr {P:Program} {c:Code} {Q:Exit→Act→World→Prop} {a:Act} {w:World} (h:∀W,W=w→c.wp P Q a W):c.wp P Q a w:=h w rfl
end Go.Proofs.YtgpjaecgkkgehaaGreatDoor
