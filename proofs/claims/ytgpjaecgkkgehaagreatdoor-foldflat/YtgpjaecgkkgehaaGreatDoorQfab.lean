/- A part of the proof of foldFlat_holds. -/
import Derived.Test.YtgpjaecgkkgehaaGreatDoorCards
import Derived.Test.YtgpjaecgkkgehaaGreatDoorTie
import Derived.Test.YtgpjaecgkkgehaaGreatDoorQfaa
import Derived.SizedLaws
import Derived.WalkKit
import Derived.Deep.DeepHandedRow
import Derived.Lib.LaidTab
import Derived.ChangeOld
import Derived.ArgAppend
import Derived.Laws.AppendOwnNone
namespace Go.Proofs.YtgpjaecgkkgehaaGreatDoor
open Go.ChangeShapes Go.WideShapes Go.ChangeAt Go.WideMaps Go.WideElems Go.RowKit Go.Joins
theorem laidOut:laidOutB Tryz.prog=true:=by kernel_rfl
theorem by3:Tryz.prog.bytesOf 3=8:=by kernel_rfl
theorem by110:Tryz.prog.bytesOf 83=40:=by kernel_rfl
set_option maxRecDepth 100000 in
theorem weights_sheet {H:Type} (a b c d:DataW H):DataW.weights Tryz.prog 25 (.agg [a,b,c,d])=DataW.weightsEach Tryz.prog [3,3,22,23] [a,b,c,d]:=by
 unfold DataW.weights
 rw [Tryz.underlying25]
 rfl
set_option maxRecDepth 100000 in
theorem sheet_of {H:Type} {enc:TypeId×Value→H} {W:World} {base:Nat} {v:Value} {d:DataW H} {p:List MemPlace} (hv:Value.okWide Tryz.prog W .any base 25 v)
  (h:DataW.Trod enc Tryz.prog W 0 (fun _=>true) true 25 v d p) (hk:∀ n∈d.weights Tryz.prog 25,n≤reachBytes) :
  ∃ (X Y:Int) (a c:Option Addr) (ca cc n:Nat) (zs ks:List Int),v=.agg #[.int .i64 X,.int .i64 Y,.slice a zs.length ca,.slice c n cc]∧Row W a zs∧Row W c ks∧ks.length=n*5∧zs.length≤17592186044416∧n≤3518437208883:=by
 obtain ⟨cs,rfl,hsz⟩:=okWide_struct Tryz.underlying25 hv
 obtain ⟨e0,e1,e2,e3,rfl⟩:=array4 (hsz.trans c74)
 obtain ⟨fuel,hf⟩:=h
 obtain ⟨y0,y1,y2,y3,n,hx,_,t0,t1,t2,t3⟩:=trod_struct4 Tryz.underlying25 hf
 simp only [Prod.mk.injEq] at hx
 obtain ⟨rfl,_⟩:=hx
 rw [weights_sheet] at hk
 simp [Value.cells,c3,c70,c72] at t0 t1 t2 t3
 obtain ⟨X,r0,_,_⟩:=DataW.trod_int Tryz.underlying3 t0
 obtain ⟨Y,r1,_,_⟩:=DataW.trod_int Tryz.underlying3 t1
 simp at r0 r1
 subst r0 r1
 obtain ⟨c,m,cc,ks,r3,hn,hrow,hlen⟩:=creases_of t3
 simp at r3
 subst r3
 have hm:m≤3518437208883:=by
  rcases hlen with rfl | ⟨es,rs,rfl,e⟩
  ·omega
  ·have:=hk ((es.length+rs.length)*Tryz.prog.bytesOf 83) (DataW.weights_mem_each (j:=3) (t:=23) (d:=y3.1) rfl rfl _ (by rw [e];simp [DataW.weights,Tryz.underlying23]))
   rw [by110] at this
   unfold reachBytes at this
   omega
 rcases open_ints Tryz.underlying22 Tryz.underlying3 c3 t2 with ⟨r2,_⟩ | ⟨x,l,cap,zs,r2,_,hl,_,hz,hy,hcell,_⟩
 ·simp at r2
  subst r2
  exact ⟨X,Y,none,c,0,cc,m,[],ks,rfl,fun i hi=>absurd hi (by simp),hrow,hn,by simp,hm⟩
 ·simp at r2
  subst r2
  have hz':zs.length=cap:=by simpa using hz
  have hlz:(zs.take l).length=l:=by rw [List.length_take];omega
  refine ⟨X,Y,some x,c,cap,cc,m,zs.take l,ks,by rw [hlz], ?_,hrow,hn, ?_,hm⟩
  ·intro i hi
   rw [hlz] at hi
   obtain ⟨b,off,rfl,hc'⟩:=ints_at hcell (by omega)
   refine ⟨b,off,rfl, ?_⟩
   rw [hc' i (by omega),List.getElem_take,List.getD_eq_getElem?_getD,List.getElem?_eq_getElem (by omega)]
   rfl
  ·have:=hk (((lits (H:=H) .i64 (zs.take l)).length+(lits (H:=H) .i64 (zs.drop l)).length)*Tryz.prog.bytesOf 3) (DataW.weights_mem_each (j:=2) (t:=22) (d:=y2.1) rfl rfl _ (by rw [hy];simp [DataW.weights,Tryz.underlying22]))
   rw [by3,show (lits (H:=H) .i64 (zs.take l)).length=(zs.take l).length by simp [lits]] at this
   unfold reachBytes at this
   omega
open Go.RowKit
theorem run_append_nothing {P:Program} (w:World) (t ty e:TypeId) (i:TypeInfo) (ht:P.underlying t=some (.slice e)) (hi:P.info? e=some i) (ao:Option Addr) (c:Nat) :
  (Builtin.append_ #[t,t] ty #[.slice none 0 0,.slice ao 0 c]).run P w=.ok (.slice none 0 0) w:=by
 cases ao <;> simp [Builtin.append_,run_underlying ht,run_sizeOf w hi,Builtin.lenOf,Builtin.firstCells,loadCells,loadCellsFrom]
theorem wpList_append_nothing {P:Program} (w:World) {ops:Array Oper} {rest:List Oper} {o:Oper} {a:Act} {Q:Exit→Act→World→Prop} (hgd:o.guard=none) (s x:Operand) (t:TypeId)
  (ho:o.op=.call { callee:=.builtin .append,args:=#[s,x],argTypes:=#[t,t] })
  (e:TypeId) (i:TypeInfo) (ht:P.underlying t=some (.slice e)) (hi:P.info? e=some i) (ao:Option Addr) (c:Nat)
  (hs:a.eval s=.slice none 0 0) (hx:a.eval x=.slice ao 0 c)
  (h:wpList P ops Q rest (a.put o.dst (.slice none 0 0)) w):wpList P ops Q (o :: rest) a w:=by
 refine wpList_plain hgd fun K hK=>?_
 have hrun:=run_append_nothing (P:=P) w t o.type e i ht hi ao c
 unfold Oper.wp
 simp [execOp,ho,resolve,invoke,builtin,hs,hx,hrun,Result.andThen]
 exact hK _ _ h
open Go.RowKit
theorem inf3:(Tryz.prog.info? 3).map (fun i=>(i.zero,i.size,i.bytes))=some (some (.int .i64 0),1,8):=by kernel_rfl
theorem inf109:(Tryz.prog.info? 83).map (fun i=>(i.zero,i.size,i.bytes))=some (some (.agg #[.int .i64 0,.int .i64 0,.int .i64 0,.int .i64 0,.int .i64 0]),5,40):=by kernel_rfl
def Sh (w:World) (g:Nat) (v0 v1 v2 v3:Value):Prop :=
 w.cell? ⟨g,0,none⟩=some v0∧w.cell? ⟨g,1,none⟩=some v1∧w.cell? ⟨g,2,none⟩=some v2∧w.cell? ⟨g,3,none⟩=some v3
theorem Sh.kept {w wx:World} {g:Nat} {v0 v1 v2 v3:Value} (h:Sh w g v0 v1 v2 v3) (hb:Below w.heap.size w wx):Sh wx g v0 v1 v2 v3 :=
 ⟨cl_kept hb h.1,cl_kept hb h.2.1,cl_kept hb h.2.2.1,cl_kept hb h.2.2.2⟩
theorem Sh.lt {w:World} {g:Nat} {v0 v1 v2 v3:Value} (h:Sh w g v0 v1 v2 v3):g<w.heap.size:=World.block_lt_of_cell? _ _ h.1
theorem row_at {w:World} {a:Option Addr} {zs:List Int} (h:Row w a zs) (hne:0<zs.length):∃ b off,a=some ⟨b,off,none⟩∧∀ j u,(zs.map (fun z=>Value.int .i64 z))[j]?=some u→w.cell? ((⟨b,off,none⟩:Addr).add j)=some u:=by
 obtain ⟨b,off,rfl,_⟩:=h 0 hne
 refine ⟨b,off,rfl,fun j u hu=>?_⟩
 have hj:j<zs.length:=by
  have:=List.getElem?_eq_some_iff.1 hu
  simpa using this.1
 obtain ⟨b',off',e,hc⟩:=h j hj
 simp at e
 obtain ⟨rfl,rfl⟩:=e
 have hadd:(⟨b,off,none⟩:Addr).add j=⟨b,off+j,none⟩:=by unfold Addr.add;split <;> simp_all
 rw [hadd,hc]
 simp [hj] at hu
 rw [hu]
def RowF (w:World) (base:Nat) (a:Option Addr) (zs:List Int):Prop :=
 ∀ i (h:i<zs.length),∃ b off,a=some ⟨b,off,none⟩∧base≤b∧w.cell? ⟨b,off+i,none⟩=some (.int .i64 zs[i])
theorem RowF.row {w:World} {base:Nat} {a:Option Addr} {zs:List Int} (h:RowF w base a zs):Row w a zs:=fun i hi=>by
 obtain ⟨b,off,e,_,hc⟩:=h i hi
 exact ⟨b,off,e,hc⟩
theorem RowF.kept {w wx:World} {base:Nat} {a:Option Addr} {zs:List Int} (h:RowF w base a zs) (hb:Below w.heap.size w wx):RowF wx base a zs:=fun i hi=>by
 obtain ⟨b,off,e,hl,hc⟩:=h i hi
 exact ⟨b,off,e,hl,cl_kept hb hc⟩
theorem set_far {w:World} {p a:Addr} {u v:Value} (h:w.cell? a=some v) (hne:a.block≠p.block):(w.setCell p u).cell? a=some v:=by
 have:=World.cell?_of_block (w:=w) (w':=w.setCell p u) (a:=a) (Below.heap_setCell w p u a.block hne)
 exact this.trans h
theorem RowF.set {w:World} {base:Nat} {a:Option Addr} {zs:List Int} (h:RowF w base a zs) {p:Addr} {u:Value} (hp:p.block<base):RowF (w.setCell p u) base a zs:=fun i hi=>by
 obtain ⟨b,off,e,hl,hc⟩:=h i hi
 exact ⟨b,off,e,hl,set_far hc (by dsimp only;omega)⟩
theorem RowF.low {w:World} {base base':Nat} {a:Option Addr} {zs:List Int} (h:RowF w base a zs) (hl:base'≤base):RowF w base' a zs:=fun i hi=>by
 obtain ⟨b,off,e,hb,hc⟩:=h i hi
 exact ⟨b,off,e,by omega,hc⟩
theorem own_row {w:World} {base:Nat} {e:TypeId} {size:Nat} {v:Value} {n:Nat} {zs:List Int} (h:w.ownsRow base e size v n (zs.map (fun z=>Value.int .i64 z))) (hn:0<n) :
  ∃ g cap,v=.slice (some ⟨g,0,none⟩) n cap∧base≤g∧RowF w base (some ⟨g,0,none⟩) zs:=by
 have hlen:=h.1
 rcases h.2 with ⟨_,h0⟩ | ⟨g,cap,cur,hv,hb,_⟩
 ·omega
 ·subst hv
  refine ⟨g,cap,rfl,hb,fun i hi=>⟨g,0,rfl,hb, ?_⟩⟩
  have:=h.cellAt i (by simp at hlen;omega)
  simp [hi] at this
  simpa using this
theorem row_nil (w:World) (base:Nat) (a:Option Addr):RowF w base a []:=fun i hi=>by simp at hi
set_option maxHeartbeats 3200000 in
theorem sheetOf_form (W H:Int) (a b:Option Addr) (ca cb n:Nat) (zs ks:List Int) (w:World) (hz:Row w a zs) (hk:Row w b ks) (hn:ks.length=n*5) (h1:zs.length≤17592186044416) (h2:n≤3518437208883) :
  Calls Tryz.prog 8 #[.agg #[.int .i64 W,.int .i64 H,.slice a zs.length ca,.slice b n cb]] w fun e w'=>∃ a' ca' b' cb',e=.returned (.agg #[.int .i64 W,.int .i64 H,.slice a' zs.length ca',.slice b' n cb'])∧RowF w' w.heap.size a' zs∧RowF w' w.heap.size b' ks∧Below w.heap.size w w'∧(b'=none∨∃ p o,b'=some ⟨p,o,none⟩):=by
 have HZ:Hid (Row w a zs):=hz
 have HK:Hid (Row w b ks):=hk
 have HN:Hid (ks.length=n*5):=hn
 obtain ⟨i3,hi3,hz0,hz1,hz2⟩:=info_parts inf3
 obtain ⟨i9,hi9,hy0,hy1,hy2⟩:=info_parts inf109
 have HI3:Hid (Tryz.prog.info? 3=some i3∧i3.zero=some (.int .i64 0)∧i3.size=1∧i3.bytes=8):=⟨hi3,hz0,hz1,hz2⟩
 have HI9:Hid (Tryz.prog.info? 83=some i9∧i9.zero=some (.agg #[.int .i64 0,.int .i64 0,.int .i64 0,.int .i64 0,.int .i64 0])∧i9.size=5∧i9.bytes=40):=⟨hi9,hy0,hy1,hy2⟩
 clear hz hk hi3 hz0 hz1 hz2 hi9 hy0 hy1 hy2 hn
 have b0:Below w.heap.size w ((w.alloc (.cells #[.int .i64 W,.int .i64 H,.slice a zs.length ca,.slice b n cb] 25)).alloc (.cells #[.int .i64 0,.int .i64 0,.slice none 0 0,.slice none 0 0] 25)):=bl_alloc (bl_alloc (bl_refl _))
 have HB0:Hid (Below w.heap.size w ((w.alloc (.cells #[.int .i64 W,.int .i64 H,.slice a zs.length ca,.slice b n cb] 25)).alloc (.cells #[.int .i64 0,.int .i64 0,.slice none 0 0,.slice none 0 0] 25))):=b0
 clear b0
 go_enter Tryz.func8,Tryz.ntmps8
 go_upto_region 1 with fail
 go_cut [] (fun wx=>∃ a' ca',Sh wx w.heap.size (.int .i64 W) (.int .i64 H) (.slice a' zs.length ca') (.slice b n cb)∧Fr wx w.heap.size∧Sh wx (w.heap.size+1) (.int .i64 0) (.int .i64 0) (.slice none 0 0) (.slice none 0 0)∧Fr wx (w.heap.size+1)∧RowF wx (w.heap.size+1+1) a' zs∧Below w.heap.size w wx)
 case first =>
  by_cases he:zs.length=0
  ·have hzz:zs=[]:=List.eq_nil_of_length_eq_zero he
   subst hzz
   go_wp2_with (at_builtin;refine wpList_append_nothing _ rfl (.const (.slice none 0 0)) (.tmp 4) 22 rfl 3 i3 Tryz.underlying22 HI3.out.1 a ca rfl rfl ?_)
   go_meet
   case rel =>
    refine ⟨none,0,⟨?_, ?_, ?_, ?_⟩, ?_,⟨?_, ?_, ?_, ?_⟩, ?_,row_nil _ _ _, ?_⟩
    ·simp [go_sem]
    ·simp [go_sem]
    ·simp [go_sem]
    ·simp [go_sem]
    ·simp [Fr,go_sem]
    ·simp [go_sem]
    ·simp [go_sem]
    ·simp [go_sem]
    ·simp [go_sem]
    ·simp [Fr,go_sem]
    ·with_reducible repeat' (first | exact bl_refl _ | refine bl_set ?_ ?_ | refine bl_alloc ?_)
     all_goals (first | omega | (dsimp only;omega))
  ·obtain ⟨ba,off,rfl,hc⟩:=row_at (HZ.out.kept HB0.out) (by omega)
   have HC:Hid (∀ j u,(zs.map (fun z=>Value.int .i64 z))[j]?=some u→((w.alloc (.cells #[.int .i64 W,.int .i64 H,.slice (some ⟨ba,off,none⟩) zs.length ca,.slice b n cb] 25)).alloc (.cells #[.int .i64 0,.int .i64 0,.slice none 0 0,.slice none 0 0] 25)).cell? ((⟨ba,off,none⟩:Addr).add j)=some u):=hc
   clear hc
   go_wp2_with (at_builtin;refine wpList_append_grows _ rfl (.const (.slice none 0 0)) (.tmp 4) 22 rfl 3 i3 (.int .i64 0) 1 8 Tryz.underlying22 HI3.out.1 HI3.out.2.1 HI3.out.2.2.1 HI3.out.2.2.2 rfl (by decide) none 0 0 [] rfl (fun _=>⟨rfl,rfl⟩) rfl (by intro _ h;simp at h) ⟨ba,off,none⟩ zs.length ca (zs.map (fun z=>Value.int .i64 z)) rfl (by simp) (by intro j u hu;exact HC.out j u hu) (by intro u hu;obtain ⟨z,_,rfl⟩:=List.mem_map.1 hu;rfl) (by omega) (by unfold maxLen;omega) (by omega) ?grow)
   case grow =>
    intro v' w' hown hgrow
    have hbel:Below ((w.alloc (.cells #[.int .i64 W,.int .i64 H,.slice (some ⟨ba,off,none⟩) zs.length ca,.slice b n cb] 25)).alloc (.cells #[.int .i64 0,.int .i64 0,.slice none 0 0,.slice none 0 0] 25)).heap.size ((w.alloc (.cells #[.int .i64 W,.int .i64 H,.slice (some ⟨ba,off,none⟩) zs.length ca,.slice b n cb] 25)).alloc (.cells #[.int .i64 0,.int .i64 0,.slice none 0 0,.slice none 0 0] 25)) w':=(Below.refl _ _).grown hgrow (Nat.le_refl _) (fun k h=>by cases h)
    obtain ⟨g,cap',rfl,hg,hrow⟩:=own_row (by simpa using hown) (by omega)
    have HR:Hid (RowF w' (w.heap.size+1+1) (some ⟨g,0,none⟩) zs):=hrow.low (by simp)
    have HB:Hid (Below w.heap.size w w'):=bl_via HB0.out hbel
    have s0:w'.cell? ⟨w.heap.size,0,none⟩=some (.int .i64 W):=cl_kept hbel (by simp [go_sem])
    have s1:w'.cell? ⟨w.heap.size,1,none⟩=some (.int .i64 H):=cl_kept hbel (by simp [go_sem])
    have s2:w'.cell? ⟨w.heap.size,2,none⟩=some (.slice (some ⟨ba,off,none⟩) zs.length ca):=cl_kept hbel (by simp [go_sem])
    have s3:w'.cell? ⟨w.heap.size,3,none⟩=some (.slice b n cb):=cl_kept hbel (by simp [go_sem])
    have sf0:w'.frozen? ⟨w.heap.size,0,none⟩=false:=(hbel.frozen (p:=⟨w.heap.size,0,none⟩) (by simp <;> omega)).trans (by simp [go_sem])
    have sf1:w'.frozen? ⟨w.heap.size,1,none⟩=false:=(hbel.frozen (p:=⟨w.heap.size,1,none⟩) (by simp <;> omega)).trans (by simp [go_sem])
    have sf2:w'.frozen? ⟨w.heap.size,2,none⟩=false:=(hbel.frozen (p:=⟨w.heap.size,2,none⟩) (by simp <;> omega)).trans (by simp [go_sem])
    have sf3:w'.frozen? ⟨w.heap.size,3,none⟩=false:=(hbel.frozen (p:=⟨w.heap.size,3,none⟩) (by simp <;> omega)).trans (by simp [go_sem])
    have sf4:w'.frozen? ⟨w.heap.size,4,none⟩=false:=(hbel.frozen (p:=⟨w.heap.size,4,none⟩) (by simp <;> omega)).trans (by simp [go_sem])
    have sf5:w'.frozen? ⟨w.heap.size,5,none⟩=false:=(hbel.frozen (p:=⟨w.heap.size,5,none⟩) (by simp <;> omega)).trans (by simp [go_sem])
    have r0:w'.cell? ⟨w.heap.size+1,0,none⟩=some (.int .i64 0):=cl_kept hbel (by simp [go_sem])
    have r1:w'.cell? ⟨w.heap.size+1,1,none⟩=some (.int .i64 0):=cl_kept hbel (by simp [go_sem])
    have r2:w'.cell? ⟨w.heap.size+1,2,none⟩=some (.slice none 0 0):=cl_kept hbel (by simp [go_sem])
    have r3:w'.cell? ⟨w.heap.size+1,3,none⟩=some (.slice none 0 0):=cl_kept hbel (by simp [go_sem])
    have rf0:w'.frozen? ⟨w.heap.size+1,0,none⟩=false:=(hbel.frozen (p:=⟨w.heap.size+1,0,none⟩) (by simp <;> omega)).trans (by simp [go_sem])
    have rf1:w'.frozen? ⟨w.heap.size+1,1,none⟩=false:=(hbel.frozen (p:=⟨w.heap.size+1,1,none⟩) (by simp <;> omega)).trans (by simp [go_sem])
    have rf2:w'.frozen? ⟨w.heap.size+1,2,none⟩=false:=(hbel.frozen (p:=⟨w.heap.size+1,2,none⟩) (by simp <;> omega)).trans (by simp [go_sem])
    have rf3:w'.frozen? ⟨w.heap.size+1,3,none⟩=false:=(hbel.frozen (p:=⟨w.heap.size+1,3,none⟩) (by simp <;> omega)).trans (by simp [go_sem])
    have rf4:w'.frozen? ⟨w.heap.size+1,4,none⟩=false:=(hbel.frozen (p:=⟨w.heap.size+1,4,none⟩) (by simp <;> omega)).trans (by simp [go_sem])
    have rf5:w'.frozen? ⟨w.heap.size+1,5,none⟩=false:=(hbel.frozen (p:=⟨w.heap.size+1,5,none⟩) (by simp <;> omega)).trans (by simp [go_sem])
    have zs0:w.heap.size<w'.heap.size:=World.block_lt_of_cell? _ _ s0
    have zr0:w.heap.size+1<w'.heap.size:=World.block_lt_of_cell? _ _ r0
    have zg0:w.heap.size+1<g:=by first | omega | (simp at hg;omega)
    clear hbel hrow hown hgrow hg HC
    go_wp2
    go_meet
    case rel =>
     refine ⟨some ⟨g,0,none⟩,cap',⟨?_, ?_, ?_, ?_⟩, ?_,⟨?_, ?_, ?_, ?_⟩, ?_, ?_, ?_⟩
     ·simp [go_sem,s0]
     ·simp [go_sem,s1]
     ·simp [go_sem,s2]
     ·simp [go_sem,s3]
     ·simp [Fr,go_sem,sf0,sf1,sf2,sf3,sf4,sf5]
     ·simp [go_sem,r0]
     ·simp [go_sem,r1]
     ·simp [go_sem,r2]
     ·simp [go_sem,r3]
     ·simp [Fr,go_sem,rf0,rf1,rf2,rf3,rf4,rf5]
     ·exact HR.out.set (by dsimp only;omega)
     ·exact bl_set HB.out (by dsimp only;omega)
 case rest =>
  obtain ⟨a',ca',⟨s0,s1,s2,s3⟩,⟨sf0,sf1,sf2,sf3,sf4,sf5⟩,⟨r0,r1,r2,r3⟩,⟨rf0,rf1,rf2,rf3,rf4,rf5⟩,hRow,hB⟩:=hcut
  have HR:Hid (RowF wc (w.heap.size+1+1) a' zs):=hRow
  have HB:Hid (Below w.heap.size w wc):=hB
  have zs0:w.heap.size<wc.heap.size:=World.block_lt_of_cell? _ _ s0
  have zr0:w.heap.size+1<wc.heap.size:=World.block_lt_of_cell? _ _ r0
  have HKc:Hid (Row wc b ks):=HK.out.kept hB
  clear hRow hB HB0
  by_cases he:n=0
  ·have hkk:ks=[]:=List.eq_nil_of_length_eq_zero (by rw [HN.out,he])
   subst hkk he
   go_wp2_with (at_builtin;refine wpList_append_nothing _ rfl (.const (.slice none 0 0)) (.tmp 8) 23 rfl 83 i9 Tryz.underlying23 HI9.out.1 b cb rfl rfl ?_)
   refine bodyPost_ret (v:=.agg #[.int .i64 W,.int .i64 H,.slice a' zs.length ca',.slice none 0 0]) ?_ rfl ⟨a',ca',none,0,rfl, ?_,row_nil _ _ _, ?_,Or.inl rfl⟩
   ·simp [results,Tryz.results8,go_sem, *]
   ·have h5:=HR.out.low (base':=w.heap.size+1+1) (Nat.le_refl _)
    refine RowF.low (base:=w.heap.size+1+1) ?_ (by omega)
    with_reducible repeat' (first | exact h5 | refine RowF.set ?_ ?_ | omega | (dsimp only;omega))
   ·with_reducible repeat' (first | exact HB.out | refine bl_set ?_ ?_)
    all_goals (first | omega | (dsimp only;omega))
  ·obtain ⟨bb,off,rfl,hc⟩:=row_at HKc.out (by rw [HN.out];omega)
   have HC:Hid (∀ j u,(ks.map (fun z=>Value.int .i64 z))[j]?=some u→wc.cell? ((⟨bb,off,none⟩:Addr).add j)=some u):=hc
   clear hc
   go_wp2_with (at_builtin;refine wpList_append_grows _ rfl (.const (.slice none 0 0)) (.tmp 8) 23 rfl 83 i9 (.agg #[.int .i64 0,.int .i64 0,.int .i64 0,.int .i64 0,.int .i64 0]) 5 40 Tryz.underlying23 HI9.out.1 HI9.out.2.1 HI9.out.2.2.1 HI9.out.2.2.2 rfl (by decide) none 0 0 [] rfl (fun _=>⟨rfl,rfl⟩) rfl (by intro _ h;simp at h) ⟨bb,off,none⟩ n cb (ks.map (fun z=>Value.int .i64 z)) rfl (by rw [List.length_map];exact HN.out) (by intro j u hu;exact HC.out j u hu) (by intro u hu;obtain ⟨z,_,rfl⟩:=List.mem_map.1 hu;rfl) (by omega) (by unfold maxLen;omega) (by omega) ?grow)
   case grow =>
    intro v' w' hown hgrow
    have hbel:Below wc.heap.size wc w':=(Below.refl _ _).grown hgrow (Nat.le_refl _) (fun k h=>by cases h)
    obtain ⟨g,cap',rfl,hg,hrow⟩:=own_row (n:=n) (by simpa using hown) (by omega)
    have HR2:Hid (RowF w' (w.heap.size+1+1) (some ⟨g,0,none⟩) ks):=hrow.low (by omega)
    have HR1:Hid (RowF w' (w.heap.size+1+1) a' zs):=HR.out.kept hbel
    have HB2:Hid (Below w.heap.size w w'):=bl_via HB.out hbel
    have s0':w'.cell? ⟨w.heap.size,0,none⟩=some (.int .i64 W):=cl_kept hbel s0
    have s1':w'.cell? ⟨w.heap.size,1,none⟩=some (.int .i64 H):=cl_kept hbel s1
    have s2':w'.cell? ⟨w.heap.size,2,none⟩=some (.slice a' zs.length ca'):=cl_kept hbel s2
    have s3':w'.cell? ⟨w.heap.size,3,none⟩=some (.slice (some ⟨bb,off,none⟩) n cb):=cl_kept hbel s3
    have sf0':w'.frozen? ⟨w.heap.size,0,none⟩=false:=(hbel.frozen (p:=⟨w.heap.size,0,none⟩) (by dsimp only;omega)).trans sf0
    have sf1':w'.frozen? ⟨w.heap.size,1,none⟩=false:=(hbel.frozen (p:=⟨w.heap.size,1,none⟩) (by dsimp only;omega)).trans sf1
    have sf2':w'.frozen? ⟨w.heap.size,2,none⟩=false:=(hbel.frozen (p:=⟨w.heap.size,2,none⟩) (by dsimp only;omega)).trans sf2
    have sf3':w'.frozen? ⟨w.heap.size,3,none⟩=false:=(hbel.frozen (p:=⟨w.heap.size,3,none⟩) (by dsimp only;omega)).trans sf3
    have r0':w'.cell? ⟨w.heap.size+1,0,none⟩=some (.int .i64 0):=cl_kept hbel r0
    have r1':w'.cell? ⟨w.heap.size+1,1,none⟩=some (.int .i64 0):=cl_kept hbel r1
    have r2':w'.cell? ⟨w.heap.size+1,2,none⟩=some (.slice none 0 0):=cl_kept hbel r2
    have r3':w'.cell? ⟨w.heap.size+1,3,none⟩=some (.slice none 0 0):=cl_kept hbel r3
    have rf0':w'.frozen? ⟨w.heap.size+1,0,none⟩=false:=(hbel.frozen (p:=⟨w.heap.size+1,0,none⟩) (by dsimp only;omega)).trans rf0
    have rf1':w'.frozen? ⟨w.heap.size+1,1,none⟩=false:=(hbel.frozen (p:=⟨w.heap.size+1,1,none⟩) (by dsimp only;omega)).trans rf1
    have rf2':w'.frozen? ⟨w.heap.size+1,2,none⟩=false:=(hbel.frozen (p:=⟨w.heap.size+1,2,none⟩) (by dsimp only;omega)).trans rf2
    have rf3':w'.frozen? ⟨w.heap.size+1,3,none⟩=false:=(hbel.frozen (p:=⟨w.heap.size+1,3,none⟩) (by dsimp only;omega)).trans rf3
    have zs1:w.heap.size<w'.heap.size:=World.block_lt_of_cell? _ _ s0'
    have zr1:w.heap.size+1<w'.heap.size:=World.block_lt_of_cell? _ _ r0'
    clear hbel hrow hown hgrow hg HC HR HB HKc
    go_wp2
    refine bodyPost_ret (v:=.agg #[.int .i64 W,.int .i64 H,.slice a' zs.length ca',.slice (some ⟨g,0,none⟩) n cap']) ?_ rfl ⟨a',ca',some ⟨g,0,none⟩,cap',rfl, ?_, ?_, ?_,Or.inr ⟨_,_,rfl⟩⟩
    ·simp [results,Tryz.results8,go_sem, *]
    ·have h5:=HR1.out.low (base':=w.heap.size+1+1) (Nat.le_refl _)
     refine RowF.low (base:=w.heap.size+1+1) ?_ (by omega)
     with_reducible repeat' (first | exact h5 | refine RowF.set ?_ ?_ | omega | (dsimp only;omega))
    ·have h5:=HR2.out.low (base':=w.heap.size+1+1) (Nat.le_refl _)
     refine RowF.low (base:=w.heap.size+1+1) ?_ (by omega)
     with_reducible repeat' (first | exact h5 | refine RowF.set ?_ ?_ | omega | (dsimp only;omega))
    ·with_reducible repeat' (first | exact HB2.out | refine bl_set ?_ ?_)
     all_goals (first | omega | (dsimp only;omega))
theorem sheetOf_any (W H:Int) (a b:Option Addr) (ca cb n:Nat) (zs ks:List Int) (w:World) (hz:Row w a zs) (hk:Row w b ks) (hn:ks.length=n*5) (h1:zs.length≤17592186044416) (h2:n≤3518437208883) :
  Calls Tryz.prog 8 #[.agg #[.int .i64 W,.int .i64 H,.slice a zs.length ca,.slice b n cb]] w fun e w'=>∃ a' ca' b' cb',e=.returned (.agg #[.int .i64 W,.int .i64 H,.slice a' zs.length ca',.slice b' n cb'])∧RowF w' w.heap.size a' zs∧RowF w' w.heap.size b' ks∧Below w.heap.size w w' :=
 (sheetOf_form W H a b ca cb n zs ks w hz hk hn h1 h2).mono fun _ _ ⟨a',ca',b',cb',he,r1,r2,hb,_⟩=>⟨a',ca',b',cb',he,r1,r2,hb⟩
open Go.RowKit
def lessB (a b c d:Int):Bool:=decide (a<c∨(a=c∧b<d))
set_option maxHeartbeats 800000 in
theorem lessPoint_any (a b c d:Int) (w:World) :
  Calls Tryz.prog 75 #[.agg #[.int .i64 a,.int .i64 b],.agg #[.int .i64 c,.int .i64 d]] w fun r w'=>r=.returned (.bool (lessB a b c d))∧∃ o1 o2,w'=(w.alloc o1).alloc o2:=by
 go_enter Tryz.func75,Tryz.ntmps75
 go_wp2
 all_goals
  go_ret
  exact ⟨ret_bool (by rw [Bool.eq_iff_iff];simp_all [lessB] <;> omega),_,_,rfl⟩
set_option maxHeartbeats 800000 in
theorem edgeOf_turn (a b c d:Int) (w:World) (h:lessB c d a b=true) :
  Calls Tryz.prog 79 #[.agg #[.int .i64 a,.int .i64 b],.agg #[.int .i64 c,.int .i64 d]] w fun r w'=>r=.returned (.agg #[.int .i64 c,.int .i64 d,.int .i64 a,.int .i64 b])∧∃ o1 o2 o3 o4 o5,w'=((((w.alloc o1).alloc o2).alloc o3).alloc o4).alloc o5:=by
 go_enter Tryz.func79,Tryz.ntmps79
 go_wp2_with (go_at_call 75;refine (lessPoint_any _ _ _ _ _).mono ?_;rintro r w' ⟨rfl,o1,o2,rfl⟩)
 exact bodyPost_ret (v:=.agg #[.int .i64 c,.int .i64 d,.int .i64 a,.int .i64 b]) (by simp [results,Tryz.results79,go_sem]) rfl ⟨rfl,_,_,_,_,_,rfl⟩
set_option maxHeartbeats 800000 in
theorem edgeOf_keep (a b c d:Int) (w:World) (h:lessB c d a b=false) :
  Calls Tryz.prog 79 #[.agg #[.int .i64 a,.int .i64 b],.agg #[.int .i64 c,.int .i64 d]] w fun r w'=>r=.returned (.agg #[.int .i64 a,.int .i64 b,.int .i64 c,.int .i64 d])∧∃ o1 o2 o3 o4 o5,w'=((((w.alloc o1).alloc o2).alloc o3).alloc o4).alloc o5:=by
 go_enter Tryz.func79,Tryz.ntmps79
 go_wp2_with (go_at_call 75;refine (lessPoint_any _ _ _ _ _).mono ?_;rintro r w' ⟨rfl,o1,o2,rfl⟩)
 exact bodyPost_ret (v:=.agg #[.int .i64 a,.int .i64 b,.int .i64 c,.int .i64 d]) (by simp [results,Tryz.results79,go_sem]) rfl ⟨rfl,_,_,_,_,_,rfl⟩
set_option maxHeartbeats 1600000 in
theorem edge_any (a b c d:Int) (w:World) :
  Calls Tryz.prog 215 #[.agg #[.int .i64 a,.int .i64 b],.agg #[.int .i64 c,.int .i64 d]] w fun r w'=>r=.returned (if lessB c d a b=true then .agg #[.int .i64 c,.int .i64 d,.int .i64 a,.int .i64 b] else .agg #[.int .i64 a,.int .i64 b,.int .i64 c,.int .i64 d])∧∃ o1 o2 o3,w'=((w.alloc o1).alloc o2).alloc o3:=by
 by_cases h1:c<a
 ·have e:lessB c d a b=true:=by simp [lessB,h1]
  rw [if_pos e]
  clear e
  go_enter Tryz.func215,Tryz.ntmps215
  go_wp2
  exact bodyPost_ret (v:=.agg #[.int .i64 c,.int .i64 d,.int .i64 a,.int .i64 b]) (by simp [results,Tryz.results215,go_sem]) rfl ⟨rfl,_,_,_,rfl⟩
 by_cases h2:c=a
 ·subst h2
  by_cases h3:d<b
  ·have e:lessB c d c b=true:=by simp [lessB,h3]
   rw [if_pos e]
   clear e
   go_enter Tryz.func215,Tryz.ntmps215
   go_wp2
   exact bodyPost_ret (v:=.agg #[.int .i64 c,.int .i64 d,.int .i64 c,.int .i64 b]) (by simp [results,Tryz.results215,go_sem]) rfl ⟨rfl,_,_,_,rfl⟩
  ·have e:¬ lessB c d c b=true:=by simp [lessB,h3]
   rw [if_neg e]
   clear e
   go_enter Tryz.func215,Tryz.ntmps215
   go_wp2
   exact bodyPost_ret (v:=.agg #[.int .i64 c,.int .i64 b,.int .i64 c,.int .i64 d]) (by simp [results,Tryz.results215,go_sem]) rfl ⟨rfl,_,_,_,rfl⟩
 ·have e:¬ lessB c d a b=true:=by simp [lessB,h1,h2]
  rw [if_neg e]
  clear e
  go_enter Tryz.func215,Tryz.ntmps215
  go_wp2
  exact bodyPost_ret (v:=.agg #[.int .i64 a,.int .i64 b,.int .i64 c,.int .i64 d]) (by simp [results,Tryz.results215,go_sem]) rfl ⟨rfl,_,_,_,rfl⟩
def eA (a b c d:Int):Int:=if lessB c d a b=true then c else a
def eB (a b c d:Int):Int:=if lessB c d a b=true then d else b
def eC (a b c d:Int):Int:=if lessB c d a b=true then a else c
def eD (a b c d:Int):Int:=if lessB c d a b=true then b else d
theorem edge_num (a b c d:Int) (w:World) :
  Calls Tryz.prog 215 #[.agg #[.int .i64 a,.int .i64 b],.agg #[.int .i64 c,.int .i64 d]] w fun r w'=>r=.returned (.agg #[.int .i64 (eA a b c d),.int .i64 (eB a b c d),.int .i64 (eC a b c d),.int .i64 (eD a b c d)])∧∃ o1 o2 o3,w'=((w.alloc o1).alloc o2).alloc o3:=by
 refine (edge_any a b c d w).mono ?_
 rintro r w' ⟨rfl,h⟩
 refine ⟨?_,h⟩
 cases e:lessB c d a b <;> simp [eA,eB,eC,eD,e]
theorem edgeOf_num (a b c d:Int) (w:World) :
  Calls Tryz.prog 79 #[.agg #[.int .i64 a,.int .i64 b],.agg #[.int .i64 c,.int .i64 d]] w fun r w'=>r=.returned (.agg #[.int .i64 (eA a b c d),.int .i64 (eB a b c d),.int .i64 (eC a b c d),.int .i64 (eD a b c d)])∧∃ o1 o2 o3 o4 o5,w'=((((w.alloc o1).alloc o2).alloc o3).alloc o4).alloc o5:=by
 cases e:lessB c d a b
 ·refine (edgeOf_keep a b c d w e).mono ?_
  rintro r w' ⟨rfl,h⟩
  exact ⟨by simp [eA,eB,eC,eD,e],h⟩
 ·refine (edgeOf_turn a b c d w e).mono ?_
  rintro r w' ⟨rfl,h⟩
  exact ⟨by simp [eA,eB,eC,eD,e],h⟩
end Go.Proofs.YtgpjaecgkkgehaaGreatDoor
