/- A part of the proof of foldFlat_holds. -/
import Derived.Test.YtgpjaecgkkgehaaGreatDoorQfbf
import Derived.Test.YtgpjaecgkkgehaaGreatDoorQfap
import Derived.Test.YtgpjaecgkkgehaaGreatDoorQfav
import Derived.Test.YtgpjaecgkkgehaaGreatDoorQfba
import Derived.Test.YtgpjaecgkkgehaaGreatDoorQfaj
import Derived.Test.YtgpjaecgkkgehaaGreatDoorQfbc
import Derived.Test.YtgpjaecgkkgehaaGreatDoorQfae
import Derived.Deep.DeepCutAuto
import Derived.Test.YtgpjaecgkkgehaaGreatDoorQfam
import Derived.Test.YtgpjaecgkkgehaaGreatDoorQfal
import Derived.Test.YtgpjaecgkkgehaaGreatDoorQfbb
import Derived.Test.YtgpjaecgkkgehaaGreatDoorQfag
import Derived.Test.YtgpjaecgkkgehaaGreatDoorQfaq
import Derived.Test.YtgpjaecgkkgehaaGreatDoorQfbk
namespace Go.Proofs.YtgpjaecgkkgehaaGreatDoor
open Go.RowKit Go.ChangeMaps
def LayNo (w:World) (W H:Int) (zs ks:List Int) (n:Nat):Prop := ∀ (W':World) (a' c':Option Addr) (ca' cc':Nat),Below w.heap.size w W'→Row W' a' zs→Row W' c' ks→Calls Tryz.prog 65 #[.agg #[.int .i64 W,.int .i64 H,.slice a' zs.length ca',.slice c' n cc']] W' fun e w'=>e=.returned (.tuple #[.agg #[.slice none 0 0,.map none,.map none],.bool false])∧Below W'.heap.size W' w'
def MayIs (w:World) (W H:Int) (a c:Option Addr) (ca cc:Nat) (zs:List Int) (n:Nat) (bb:Bool):Prop := ∀ W':World,Below w.heap.size w W'→Calls Tryz.prog 10 #[.agg #[.int .i64 W,.int .i64 H,.slice a zs.length ca,.slice c n cc]] W' fun e w'=>e=.returned (.bool bb)∧Below W'.heap.size W' w'
theorem sheet_either (W H:Int) (a c:Option Addr) (ca cc n:Nat) (zs ks:List Int) (w:World) (hz:Row w a zs) (hk:Row w c ks) (hn:ks.length=n*5) (h2:n≤3518437208883) (hs:Steps w) :
  (LayNo w W H zs ks n∧MayIs w W H a c ca cc zs n false) ∨
  (∃ (Wn Hn b off:Nat),W=(Wn:Int)∧H=(Hn:Int)∧a=some ⟨b,off,none⟩∧(1≤Wn∧Wn≤8)∧(1≤Hn∧Hn≤8)∧zs.length=Wn*Hn∧maskB zs=true∧Joined (ty zs Wn Hn)∧(∀ i,i<n→CrOk (ty zs Wn Hn) ks i)∧MayIs w W H a c ca cc zs n true):=by
 cases hc:cellsB W H zs
 ·exact Or.inl ⟨fun W' a' c' ca' cc' hb q1 q2=>lay_bad W H a' ca' zs _ W' q1 hc,fun W' hb=>sheetMay_bad W H a ca zs _ W' (hz.kept hb) hc⟩
 ·simp only [cellsB,Bool.and_eq_true,decide_eq_true_eq,sideB] at hc
  obtain ⟨⟨⟨q1,q2⟩,q3⟩,q4⟩:=hc
  obtain ⟨Wn,rfl⟩:∃ m:Nat,W=(m:Int):=⟨W.toNat,by omega⟩
  obtain ⟨Hn,rfl⟩:∃ m:Nat,H=(m:Int):=⟨H.toNat,by omega⟩
  have hl:zs.length=Wn*Hn:=by
   rw [← Int.natCast_mul] at q3
   omega
  have h0:0<zs.length:=by
   rw [hl]
   exact Nat.mul_pos (by omega) (by omega)
  have hW:1≤Wn∧Wn≤8:=by omega
  have hH:1≤Hn∧Hn≤8:=by omega
  obtain ⟨b,off,rfl,_⟩:=hz 0 h0
  have hM:∀ W':World,Below w.heap.size w W'→Calls Tryz.prog 10 #[.agg #[.int .i64 (Wn:Int),.int .i64 (Hn:Int),.slice (some ⟨b,off,none⟩) zs.length ca,.slice c n cc]] W' fun e w'=>∃ bb:Bool,e=.returned (.bool bb)∧(bb=true↔((∀ i,i<n→CrOk (ty zs Wn Hn) ks i)∧Joined (ty zs Wn Hn)))∧Below W'.heap.size W' w':=fun W' hW'=>sheetMay_any Wn Hn b off ca n cc c zs ks W' (hz.kept hW') hW hH hl q4 (hk.kept hW') hn h2
  by_cases hok:(∀ i,i<n→CrOk (ty zs Wn Hn) ks i)∧Joined (ty zs Wn Hn)
  ·refine Or.inr ⟨Wn,Hn,b,off,rfl,rfl,rfl,hW,hH,hl,q4,hok.2,hok.1,fun W' hb=>(hM W' hb).mono ?_⟩
   rintro e w' ⟨bb,rfl,hbb,hb'⟩
   rw [hbb.2 hok]
   exact ⟨rfl,hb'⟩
  ·refine Or.inl ⟨fun W' a' c' ca' cc' hb r1 r2=>?_,fun W' hb=>(hM W' hb).mono ?_⟩
   ·obtain ⟨ba,oa,rfl,_⟩:=r1 0 h0
    by_cases hJ:Joined (ty zs Wn Hn)
    ·exact lay_nocrease Wn Hn ba oa ca' n cc' c' zs ks W' r1 hW hH hl q4 r2 hn h2 (hs.kept hb) hJ (fun h=>hok ⟨h,hJ⟩)
    ·exact lay_nojoin Wn Hn ba oa ca' n cc' c' zs ks W' r1 hW hH hl q4 r2 hn h2 (hs.kept hb) hJ
   ·rintro e w' ⟨bb,rfl,hbb,hb'⟩
    obtain rfl:bb=false:=by
     cases bb with
     | false=>rfl
     | true=>exact absurd (hbb.1 rfl) hok
    exact ⟨rfl,hb'⟩
open Go.RowKit Go.ChangeMaps
theorem Place_no (W H:Int) (a c:Option Addr) (n1 n2 ca cc:Nat) (w:World) (hcall:∀ W':World,Below w.heap.size w W'→Calls Tryz.prog 65 #[.agg #[.int .i64 W,.int .i64 H,.slice a n1 ca,.slice c n2 cc]] W' fun e w'=>e=.returned (.tuple #[.agg #[.slice none 0 0,.map none,.map none],.bool false])∧Below W'.heap.size W' w') :
  Calls Tryz.prog 64 #[.agg #[.int .i64 W,.int .i64 H,.slice a n1 ca,.slice c n2 cc]] w fun e w'=>e=.returned (.tuple #[.slice none 0 0,.int .i64 10])∧Below w.heap.size w w':=by
 have HC:Hid (∀ W':World,Below w.heap.size w W'→Calls Tryz.prog 65 #[.agg #[.int .i64 W,.int .i64 H,.slice a n1 ca,.slice c n2 cc]] W' fun e w'=>e=.returned (.tuple #[.agg #[.slice none 0 0,.map none,.map none],.bool false])∧Below W'.heap.size W' w'):=hcall
 clear hcall
 go_enter Tryz.func64,Tryz.ntmps64
 go_wp2_with (go_at_call 65;refine (HC.out _ (by with_reducible exact bl_alloc (bl_refl _))).mono ?_;rintro e w2 ⟨rfl,hb⟩;have HB:Hid (Below w.heap.size w w2):=bl_via (bl_alloc (bl_refl _)) hb;clear hb)
 exact bodyPost_ret (v:=.tuple #[.slice none 0 0,.int .i64 10]) (by simp [results,Tryz.results64,go_sem]) rfl ⟨rfl,by with_reducible repeat (first | exact HB.out | refine bl_alloc ?_)⟩
def PlaceTo (kd:Int×Int×Int×Int→Int) (L:List (Int×Int×Int)) (w w':World) (e:Ending):Prop:=Below w.heap.size w w'∧((∃ M g,Cons kd L M∧e=.returned (.tuple #[.slice (some ⟨g,0,none⟩) L.length L.length,.int .i64 0])∧MRow w' g L.length M)∨((¬ ∃ N,Cons kd L N)∧e=.returned (.tuple #[.slice none 0 0,.int .i64 8])))
set_option maxRecDepth 100000 in
set_option maxHeartbeats 3200000 in
theorem Place_yes (W H b off cap n ccap:Nat) (cb:Option Addr) (zs ks:List Int) (w:World) (hr:Row w (some ⟨b,off,none⟩) zs) (hW:1≤W∧W≤8) (hH:1≤H∧H≤8) (hl:zs.length=W*H) (hm:maskB zs=true) (hk:Row w cb ks) (hn:ks.length=n*5) (hn2:n≤3518437208883) (hs:Steps w) (hJ:Joined (ty zs W H)) (hC:∀ i,i<n→CrOk (ty zs W H) ks i) :
  Calls Tryz.prog 64 #[.agg #[.int .i64 (W:Int),.int .i64 (H:Int),.slice (some ⟨b,off,none⟩) zs.length cap,.slice cb n ccap]] w fun e w'=>PlaceTo (kdn ks n) (ty zs W H) w w' e:=by
 have CL:Hid (∀ W':World,Below w.heap.size w W'→Calls Tryz.prog 65 #[.agg #[.int .i64 (W:Int),.int .i64 (H:Int),.slice (some ⟨b,off,none⟩) zs.length cap,.slice cb n ccap]] W' fun e w'=>∃ ad cc base ra rk,e=.returned (.tuple #[.agg #[.slice ad (ty zs W H).length cc,.map (some ra),.map (some rk)],.bool true])∧PK W' w' base ra rk (.slice ad (ty zs W H).length cc) (ty zs W H) (gix (ty zs W H)) (kf ks n)):=fun W' hW'=>lay_yes W H b off cap n ccap cb zs ks W' (hr.kept hW') hW hH hl hm (hk.kept hW') hn hn2 (hs.kept hW') hJ hC
 have hlen:(ty zs W H).length≤300:=by have:=ty_len zs W H hW.2;omega
 have CP:Hid (∀ (W':World) (ad:Option Addr) (cc ra rk:Nat),Below w.heap.size w W'→PA W' ad ra (ty zs W H)→KL W' rk (kdn ks n)→Calls Tryz.prog 96 #[.agg #[.slice ad (ty zs W H).length cc,.map (some ra),.map (some rk)]] W' fun e w'=>PlaceTo (kdn ks n) (ty zs W H) W' w' e):=fun W' ad cc ra rk hW' hp hkl=>(placesOf_any W' cc ra rk ad _ (kdn ks n) (hs.kept hW') hp hkl hJ hlen (ty_nodup zs W H) (ty_bd hW.2 hH.2)).mono fun e w' ⟨h1,h2⟩=>⟨h1,h2.imp (fun ⟨M,c1,c2,c3⟩=>⟨M,_,c1,c2,c3⟩) id⟩
 obtain ⟨L,hL⟩:∃ L,L=ty zs W H:=⟨_,rfl⟩
 rw [← hL] at CL CP hlen
 rw [← hL]
 clear hr hk hl hm hW hH hn hs hJ hC hL
 go_enter Tryz.func64,Tryz.ntmps64
 go_wp2_with (first
  | (go_at_call 65;refine (CL.out _ (by with_reducible exact bl_alloc (bl_refl _))).mono ?_;rintro e w2 ⟨ad,cc,base,ra,rk,rfl,hpk⟩;have HB:Hid (Below w.heap.size w w2):=bl_via (bl_alloc (bl_refl _)) hpk.2.2.2.2;have HPK:Hid (PA w2 ad ra L∧KL w2 rk (kdn ks n)):=⟨hpk.pa,hpk.kl⟩;clear hpk)
  | (go_at_call 96;refine (CP.out _ ad cc ra rk (by with_reducible exact bl_alloc HB.out) (HPK.out.1.kept (by with_reducible exact bl_alloc (bl_refl _))) (HPK.out.2.kept (by with_reducible exact bl_alloc (bl_refl _)))).mono ?_;rintro e w3 ⟨hb3,h3⟩;have HB3:Hid (Below w.heap.size w w3):=bl_via (bl_alloc HB.out) hb3;have H3:Hid ((∃ M g,Cons (kdn ks n) L M∧e=.returned (.tuple #[.slice (some ⟨g,0,none⟩) L.length L.length,.int .i64 0])∧MRow w3 g L.length M)∨((¬ ∃ N,Cons (kdn ks n) L N)∧e=.returned (.tuple #[.slice none 0 0,.int .i64 8]))):=h3;clear hb3 h3;rcases H3.out with ⟨M,g,hc,rfl,hr⟩ | ⟨hno,rfl⟩))
 ·exact bodyPost_ret (v:=.tuple #[.slice (some ⟨g,0,none⟩) L.length L.length,.int .i64 0]) (by simp [results,Tryz.results64,go_sem]) rfl ⟨HB3.out,Or.inl ⟨M,g,hc,rfl,hr⟩⟩
 ·exact bodyPost_ret (v:=.tuple #[.slice none 0 0,.int .i64 8]) (by simp [results,Tryz.results64,go_sem]) rfl ⟨HB3.out,Or.inr ⟨hno,rfl⟩⟩
open Go.RowKit
theorem neqC (a b c d e:Int) (w:World):(binOp .neq 83 (.agg #[.int .i64 a,.int .i64 b,.int .i64 c,.int .i64 d,.int .i64 e]) (.agg #[.int .i64 a,.int .i64 b,.int .i64 c,.int .i64 d,.int .i64 e])).run Tryz.prog w=.ok (.bool false) w:=by
 simp [go_sem]
set_option maxRecDepth 100000 in
set_option maxHeartbeats 3200000 in
theorem sameSheet_yes (W H:Int) (a1 a2 c1 c2:Option Addr) (k1 k2 d1 d2 n:Nat) (zs ks:List Int) (w:World) (hz1:Row w a1 zs) (hz2:Row w a2 zs) (hk1:Row w c1 ks) (hk2:Row w c2 ks) (hn:ks.length=n*5) (hl:zs.length≤17592186044416) (hn2:n≤3518437208883) :
  Calls Tryz.prog 47 #[.agg #[.int .i64 W,.int .i64 H,.slice a1 zs.length k1,.slice c1 n d1],.agg #[.int .i64 W,.int .i64 H,.slice a2 zs.length k2,.slice c2 n d2]] w fun e w'=>e=.returned (.bool true)∧Below w.heap.size w w':=by
 have HR:Hid (Row w a1 zs∧Row w a2 zs∧Row w c1 ks∧Row w c2 ks∧ks.length=n*5):=⟨hz1,hz2,hk1,hk2,hn⟩
 obtain ⟨w0,hw0⟩:∃ W0,W0=(w.alloc (.cells #[.int .i64 W,.int .i64 H,.slice a1 zs.length k1,.slice c1 n d1] 25)).alloc (.cells #[.int .i64 W,.int .i64 H,.slice a2 zs.length k2,.slice c2 n d2] 25):=⟨_,rfl⟩
 have hx:w0.cell? ⟨w.heap.size,2,none⟩=some (.slice a1 zs.length k1)∧w0.cell? ⟨w.heap.size,3,none⟩=some (.slice c1 n d1)∧w0.cell? ⟨w.heap.size+1,2,none⟩=some (.slice a2 zs.length k2)∧w0.cell? ⟨w.heap.size+1,3,none⟩=some (.slice c2 n d2):=by
  rw [hw0]
  simp [go_sem]
 have HX:Hid (w0.cell? ⟨w.heap.size,2,none⟩=some (.slice a1 zs.length k1)∧w0.cell? ⟨w.heap.size,3,none⟩=some (.slice c1 n d1)∧w0.cell? ⟨w.heap.size+1,2,none⟩=some (.slice a2 zs.length k2)∧w0.cell? ⟨w.heap.size+1,3,none⟩=some (.slice c2 n d2)):=hx
 have hb0:Below w.heap.size w w0:=by
  rw [hw0]
  exact bl_alloc (bl_alloc (bl_refl _))
 have HB0:Hid (Below w.heap.size w w0):=hb0
 have HW0:Hid ((w.alloc (.cells #[.int .i64 W,.int .i64 H,.slice a1 zs.length k1,.slice c1 n d1] 25)).alloc (.cells #[.int .i64 W,.int .i64 H,.slice a2 zs.length k2,.slice c2 n d2] 25)=w0):=hw0.symm
 have q1:(W != W)=false:=by simp
 have q2:(H != H)=false:=by simp
 have q3:((zs.length:Int) != (zs.length:Int))=false:=by simp
 have q4:((n:Int) != (n:Int))=false:=by simp
 have hc:=neqC
 clear hx hb0 hw0 hz1 hz2 hk1 hk2 hn
 go_enter Tryz.func47,Tryz.ntmps47
 go_wp2
 go_loopg [5] zs.length (fun gk s5 wx=>∃ i:Nat,i≤zs.length∧gk=zs.length - i∧s5=.int .i64 (i:Int)∧Below w0.heap.size w0 wx)
 case atStart=>exact ⟨0,by omega,rfl,rfl,by rw [HW0.out];exact bl_refl _⟩
 case round =>
  obtain ⟨i,hi,rfl,rfl,hB⟩:=hrel
  have HB:Hid (Below w0.heap.size w0 wr):=hB
  have p0:=cl_kept hB HX.out.1
  have p1:=cl_kept hB HX.out.2.2.1
  have zp:w.heap.size<wr.heap.size:=World.block_lt_of_cell? _ _ p0
  have zp1:w.heap.size+1<wr.heap.size:=World.block_lt_of_cell? _ _ p1
  clear hB
  by_cases h1:i<zs.length
  ·have i1:(i:Int)<(zs.length:Int):=by omega
   have i0:(0:Int)≤(i:Int):=by omega
   obtain ⟨b1,o1,rfl,r1⟩:=HR.out.1 i h1
   obtain ⟨b2,o2,rfl,r2⟩:=HR.out.2.1 i h1
   replace r1:=cl_kept (bl_via HB0.out HB.out) r1
   replace r2:=cl_kept (bl_via HB0.out HB.out) r2
   have zb1:b1<wr.heap.size:=World.block_lt_of_cell? _ _ r1
   have zb2:b2<wr.heap.size:=World.block_lt_of_cell? _ _ r2
   obtain ⟨z,hz⟩:∃ z,z=zs[i]:=⟨_,rfl⟩
   rw [← hz] at r1 r2
   have qz:(z != z)=false:=by simp
   clear hz
   go_wp2
   have kc:=Kin.cells wr
   have kn:Nonempty (Kin wr):=⟨⟨wr,bl_refl _⟩⟩
   refine wp_region_kin (by kernel_rfl) (by kernel_rfl) ?_
   repeat (go_big_quiet_step (fail))
   refine wpQuiet_nil ?_
   intro wq hw'
   obtain ⟨nq,hw''⟩:=hw'
   have hq:Below wr.heap.size wr wq:=hw'' ▸ nq.h
   clear hw'' nq kc kn p0 p1 r1 r2
   go_wp2
   go_roundg (zs.length - (i+1))
   case measure=>omega
   case rel=>exact ⟨i+1,by omega,rfl,by go_num,bl_via HB.out hq⟩
  ·have i1:¬ (i:Int)<(zs.length:Int):=by omega
   go_wp2
   clear p0 p1 zp zp1 i1 h1
   go_loopg [6] n (fun gk s6 wx=>∃ i:Nat,i≤n∧gk=n - i∧s6=.int .i64 (i:Int)∧Below w0.heap.size w0 wx)
   case atStart=>exact ⟨0,by omega,rfl,rfl,HB.out⟩
   case round =>
    clear HB
    obtain ⟨i,hi,rfl,rfl,hB⟩:=hrel
    have HB:Hid (Below w0.heap.size w0 wr):=hB
    have p0:=cl_kept hB HX.out.2.1
    have p1:=cl_kept hB HX.out.2.2.2
    have zp:w.heap.size<wr.heap.size:=World.block_lt_of_cell? _ _ p0
    have zp1:w.heap.size+1<wr.heap.size:=World.block_lt_of_cell? _ _ p1
    clear hB
    by_cases h1:i<n
    ·have i1:(i:Int)<(n:Int):=by omega
     have i0:(0:Int)≤(i:Int):=by omega
     obtain ⟨b1,o1,rfl,r0,r1,r2,r3,r4⟩:=(row_crow HR.out.2.2.1 HR.out.2.2.2.2).kept (bl_via HB0.out HB.out) i h1
     obtain ⟨b2,o2,rfl,s0,s1,s2,s3,s4⟩:=(row_crow HR.out.2.2.2.1 HR.out.2.2.2.2).kept (bl_via HB0.out HB.out) i h1
     have zb1:b1<wr.heap.size:=World.block_lt_of_cell? _ _ r0
     have zb2:b2<wr.heap.size:=World.block_lt_of_cell? _ _ s0
     obtain ⟨v0,hv0⟩:∃ z,z=ck ks i 0:=⟨_,rfl⟩
     obtain ⟨v1,hv1⟩:∃ z,z=ck ks i 1:=⟨_,rfl⟩
     obtain ⟨v2,hv2⟩:∃ z,z=ck ks i 2:=⟨_,rfl⟩
     obtain ⟨v3,hv3⟩:∃ z,z=ck ks i 3:=⟨_,rfl⟩
     obtain ⟨v4,hv4⟩:∃ z,z=ck ks i 4:=⟨_,rfl⟩
     rw [← hv0] at r0 s0
     rw [← hv1] at r1 s1
     rw [← hv2] at r2 s2
     rw [← hv3] at r3 s3
     rw [← hv4] at r4 s4
     clear hv0 hv1 hv2 hv3 hv4
     go_wp2
     have kc:=Kin.cells wr
     have kn:Nonempty (Kin wr):=⟨⟨wr,bl_refl _⟩⟩
     refine wp_region_kin (by kernel_rfl) (by kernel_rfl) ?_
     repeat (go_big_quiet_step (fail))
     refine wpQuiet_nil ?_
     intro wq hw'
     obtain ⟨nq,hw''⟩:=hw'
     have hq:Below wr.heap.size wr wq:=hw'' ▸ nq.h
     clear hw'' nq kc kn p0 p1 r0 r1 r2 r3 r4 s0 s1 s2 s3 s4
     go_wp2
     go_roundg (n - (i+1))
     case measure=>omega
     case rel=>exact ⟨i+1,by omega,rfl,by go_num,bl_via HB.out hq⟩
    ·have i1:¬ (i:Int)<(n:Int):=by omega
     go_wp2
     go_ret
     exact ⟨rfl,bl_via HB0.out HB.out⟩
open Go.RowKit
set_option maxRecDepth 100000 in
set_option maxHeartbeats 1600000 in
theorem sameTris_yes (a c:Option Addr) (ca cc:Nat) (L:List (Int×Int×Int)) (w:World) (hL:L.length≤300) (ha:TRow w a L) (hc:TRow w c L) :
  Calls Tryz.prog 27 #[.slice a L.length ca,.slice c L.length cc] w fun e w'=>e=.returned (.bool true)∧Below w.heap.size w w':=by
 have HA:Hid (TRow w a L):=ha
 have HC:Hid (TRow w c L):=hc
 clear ha hc
 go_enter Tryz.func27,Tryz.ntmps27
 go_wp2
 go_loopg [5] L.length (fun gk s5 wx=>∃ i:Nat,i≤L.length∧gk=L.length - i∧s5=.int .i64 (i:Int)∧Below w.heap.size w wx)
 case atStart=>exact ⟨0,by omega,rfl,rfl,bl_refl _⟩
 case round =>
  obtain ⟨i,hi,rfl,rfl,hB⟩:=hrel
  have HB:Hid (Below w.heap.size w wr):=hB
  clear hB
  by_cases h1:i<L.length
  ·have i1:(i:Int)<(L.length:Int):=by omega
   have i0:(0:Int)≤(i:Int):=by omega
   obtain ⟨g,rfl,t0,t1,t2⟩:=(HA.out.kept HB.out) i h1
   obtain ⟨g',rfl,u0,u1,u2⟩:=(HC.out.kept HB.out) i h1
   have z1:g<wr.heap.size:=World.block_lt_of_cell? _ _ t0
   have z2:g'<wr.heap.size:=World.block_lt_of_cell? _ _ u0
   obtain ⟨x,hx⟩:∃ x,x=L[i].1:=⟨_,rfl⟩
   obtain ⟨y,hy⟩:∃ y,y=L[i].2.1:=⟨_,rfl⟩
   obtain ⟨k,hk⟩:∃ k,k=L[i].2.2:=⟨_,rfl⟩
   rw [← hx] at t0 u0
   rw [← hy] at t1 u1
   rw [← hk] at t2 u2
   have hneq:∀ w':World,(binOp .neq 56 (.agg #[.int .i64 x,.int .i64 y,.int .i64 k]) (.agg #[.int .i64 x,.int .i64 y,.int .i64 k])).run Tryz.prog w'=.ok (.bool false) w':=fun w'=>by
    have:=neq23 x y k x y k w'
    simpa [sameT] using this
   clear hx hy hk
   have kc:=Kin.cells wr
   have kn:Nonempty (Kin wr):=⟨⟨wr,bl_refl _⟩⟩
   go_wp2
   refine wp_region_kin (by kernel_rfl) (by kernel_rfl) ?_
   repeat (go_big_quiet_step (fail))
   refine wpQuiet_nil ?_
   intro wq hw'
   obtain ⟨nq,hw''⟩:=hw'
   have hq:Below wr.heap.size wr wq:=hw'' ▸ nq.h
   have HQ:Hid (Below w.heap.size w wq):=bl_via HB.out hq
   clear hw'' nq hq kc kn
   go_wp2
   go_roundg (L.length - (i+1))
   case measure=>omega
   case rel=>exact ⟨i+1,by omega,rfl,by go_num,HQ.out⟩
  ·have i1:¬ (i:Int)<(L.length:Int):=by omega
   go_wp2
   go_ret
   exact ⟨rfl,HB.out⟩
def SRow (w:World) (a:Option Addr) (S:List ((Int×Int×Int)×List (Int×Int×Int))):Prop :=
 ∀ i (h:i<S.length),∃ g sa sc,a=some ⟨g,0,none⟩∧w.cell? ⟨g,i*4,none⟩=some (.int .i64 S[i].1.1)∧w.cell? ⟨g,i*4+1,none⟩=some (.int .i64 S[i].1.2.1)∧w.cell? ⟨g,i*4+2,none⟩=some (.int .i64 S[i].1.2.2)∧w.cell? ⟨g,i*4+3,none⟩=some (.slice sa S[i].2.length sc)∧TRow w sa S[i].2
theorem SRow.kept {w w':World} {a:Option Addr} {S:List ((Int×Int×Int)×List (Int×Int×Int))} (h:SRow w a S) (hb:Below w.heap.size w w'):SRow w' a S:=fun i hi=>by
 obtain ⟨g,sa,sc,e,c0,c1,c2,c3,ht⟩:=h i hi
 exact ⟨g,sa,sc,e,cl_kept hb c0,cl_kept hb c1,cl_kept hb c2,cl_kept hb c3,ht.kept hb⟩
theorem neqT_same (a b c:Int) (w:World):(binOp .neq 56 (.agg #[.int .i64 a,.int .i64 b,.int .i64 c]) (.agg #[.int .i64 a,.int .i64 b,.int .i64 c])).run Tryz.prog w=.ok (.bool false) w:=by
 simp [go_sem]
set_option maxRecDepth 100000 in
set_option maxHeartbeats 3200000 in
theorem sameState_yes (W H:Int) (a1 a2 c1 c2:Option Addr) (k1 k2 d1 d2 n g1 g2 m1 m2 N u1 u2:Nat) (t1 t2:Option Addr) (zs ks:List Int) (M:Nat→M6) (S:List ((Int×Int×Int)×List (Int×Int×Int))) (w:World) (hz1:Row w a1 zs) (hz2:Row w a2 zs) (hk1:Row w c1 ks) (hk2:Row w c2 ks) (hn:ks.length=n*5) (hl:zs.length≤17592186044416) (hn2:n≤3518437208883) (hM1:MRow w g1 N M) (hM2:MRow w g2 N M) (hN:N≤300) (hS1:SRow w t1 S) (hS2:SRow w t2 S) (hSl:S.length≤300) (hSe:∀ s∈S,s.2.length≤300) :
  Calls Tryz.prog 14 #[.agg #[.int .i64 W,.int .i64 H,.slice a1 zs.length k1,.slice c1 n d1,.slice (some ⟨g1,0,none⟩) N m1,.slice t1 S.length u1],.agg #[.int .i64 W,.int .i64 H,.slice a2 zs.length k2,.slice c2 n d2,.slice (some ⟨g2,0,none⟩) N m2,.slice t2 S.length u2]] w fun e w'=>e=.returned (.bool true)∧Below w.heap.size w w':=by
 have CS:Hid (∀ W':World,Below w.heap.size w W'→Calls Tryz.prog 47 #[.agg #[.int .i64 W,.int .i64 H,.slice a1 zs.length k1,.slice c1 n d1],.agg #[.int .i64 W,.int .i64 H,.slice a2 zs.length k2,.slice c2 n d2]] W' fun e w'=>e=.returned (.bool true)∧Below W'.heap.size W' w'):=fun W' hW'=>sameSheet_yes W H a1 a2 c1 c2 k1 k2 d1 d2 n zs ks W' (hz1.kept hW') (hz2.kept hW') (hk1.kept hW') (hk2.kept hW') hn hl hn2
 have HR:Hid (MRow w g1 N M∧MRow w g2 N M∧SRow w t1 S∧SRow w t2 S∧∀ s∈S,s.2.length≤300):=⟨hM1,hM2,hS1,hS2,hSe⟩
 obtain ⟨w0,hw0⟩:∃ W0,W0=(w.alloc (.cells #[.int .i64 W,.int .i64 H,.slice a1 zs.length k1,.slice c1 n d1,.slice (some ⟨g1,0,none⟩) N m1,.slice t1 S.length u1] 29)).alloc (.cells #[.int .i64 W,.int .i64 H,.slice a2 zs.length k2,.slice c2 n d2,.slice (some ⟨g2,0,none⟩) N m2,.slice t2 S.length u2] 29):=⟨_,rfl⟩
 have hx:w0.cell? ⟨w.heap.size,4,none⟩=some (.slice (some ⟨g1,0,none⟩) N m1)∧w0.cell? ⟨w.heap.size,5,none⟩=some (.slice t1 S.length u1)∧w0.cell? ⟨w.heap.size+1,4,none⟩=some (.slice (some ⟨g2,0,none⟩) N m2)∧w0.cell? ⟨w.heap.size+1,5,none⟩=some (.slice t2 S.length u2):=by
  rw [hw0]
  simp [go_sem]
 have HX:Hid (w0.cell? ⟨w.heap.size,4,none⟩=some (.slice (some ⟨g1,0,none⟩) N m1)∧w0.cell? ⟨w.heap.size,5,none⟩=some (.slice t1 S.length u1)∧w0.cell? ⟨w.heap.size+1,4,none⟩=some (.slice (some ⟨g2,0,none⟩) N m2)∧w0.cell? ⟨w.heap.size+1,5,none⟩=some (.slice t2 S.length u2)):=hx
 have hb0:Below w.heap.size w w0:=by
  rw [hw0]
  exact bl_alloc (bl_alloc (bl_refl _))
 have HB0:Hid (Below w.heap.size w w0):=hb0
 have HW0:Hid ((w.alloc (.cells #[.int .i64 W,.int .i64 H,.slice a1 zs.length k1,.slice c1 n d1,.slice (some ⟨g1,0,none⟩) N m1,.slice t1 S.length u1] 29)).alloc (.cells #[.int .i64 W,.int .i64 H,.slice a2 zs.length k2,.slice c2 n d2,.slice (some ⟨g2,0,none⟩) N m2,.slice t2 S.length u2] 29)=w0):=hw0.symm
 have q3:((N:Int) != (N:Int))=false:=by simp
 have q4:((S.length:Int) != (S.length:Int))=false:=by simp
 have hc:=neqM
 have hc2:=neqT_same
 clear hx hb0 hw0 hz1 hz2 hk1 hk2 hn hM1 hM2 hS1 hS2 hSe hl hn2
 go_enter Tryz.func14,Tryz.ntmps14
 go_upto_region 3 with (go_at_call 47;refine (CS.out _ (by with_reducible exact bl_alloc (bl_alloc (bl_refl _)))).mono ?_;rintro e w1 ⟨rfl,hb1⟩;have HB1:Hid (Below w0.heap.size w0 w1):=(by rw [HW0.out] at hb1;exact hb1);have e0:=cl_kept HB1.out HX.out.1;have e1:=cl_kept HB1.out HX.out.2.1;have e2:=cl_kept HB1.out HX.out.2.2.1;have e3:=cl_kept HB1.out HX.out.2.2.2;have ze0:w.heap.size<w1.heap.size:=World.block_lt_of_cell? _ _ e0;have ze1:w.heap.size+1<w1.heap.size:=World.block_lt_of_cell? _ _ e2;clear hb1)
 clear CS HW0 e0 e1 e2 e3 ze0 ze1
 go_wp2
 go_loopg [5] N (fun gk s5 wx=>∃ i:Nat,i≤N∧gk=N - i∧s5=.int .i64 (i:Int)∧Below w0.heap.size w0 wx)
 case atStart=>exact ⟨0,by omega,rfl,rfl,HB1.out⟩
 case round =>
  clear HB1
  obtain ⟨i,hi,rfl,rfl,hB⟩:=hrel
  have HB:Hid (Below w0.heap.size w0 wr):=hB
  have p0:=cl_kept hB HX.out.1
  have p1:=cl_kept hB HX.out.2.2.1
  have zp:w.heap.size<wr.heap.size:=World.block_lt_of_cell? _ _ p0
  have zp1:w.heap.size+1<wr.heap.size:=World.block_lt_of_cell? _ _ p1
  clear hB
  by_cases h1:i<N
  ·have i1:(i:Int)<(N:Int):=by omega
   have i0:(0:Int)≤(i:Int):=by omega
   obtain ⟨⟨r0,r1,r2,r3,r4,r5⟩,_⟩:=(HR.out.1.kept (bl_via HB0.out HB.out)) i h1
   obtain ⟨⟨s0,s1,s2,s3,s4,s5⟩,_⟩:=(HR.out.2.1.kept (bl_via HB0.out HB.out)) i h1
   obtain ⟨A,B,C,D,E,F,hmi⟩:∃ A B C D E F,M i=(A,B,C,D,E,F):=⟨_,_,_,_,_,_,rfl⟩
   rw [hmi] at r0 r1 r2 r3 r4 r5 s0 s1 s2 s3 s4 s5
   dsimp only at r0 r1 r2 r3 r4 r5 s0 s1 s2 s3 s4 s5
   have hsm:sameM A B C D E F A B C D E F=true:=by simp [sameM]
   have zb1:g1<wr.heap.size:=World.block_lt_of_cell? _ _ r0
   have zb2:g2<wr.heap.size:=World.block_lt_of_cell? _ _ s0
   clear hmi
   go_wp2
   have kc:=Kin.cells wr
   have kn:Nonempty (Kin wr):=⟨⟨wr,bl_refl _⟩⟩
   refine wp_region_kin (by kernel_rfl) (by kernel_rfl) ?_
   repeat (go_big_quiet_step (fail))
   refine wpQuiet_nil ?_
   intro wq hw'
   obtain ⟨nq,hw''⟩:=hw'
   have hq:Below wr.heap.size wr wq:=hw'' ▸ nq.h
   clear hw'' nq kc kn p0 p1 r0 r1 r2 r3 r4 r5 s0 s1 s2 s3 s4 s5
   go_wp2
   go_roundg (N - (i+1))
   case measure=>omega
   case rel=>exact ⟨i+1,by omega,rfl,by go_num,bl_via HB.out hq⟩
  ·have i1:¬ (i:Int)<(N:Int):=by omega
   go_wp2
   clear p0 p1 zp zp1 i1 h1
   go_loopg [6] S.length (fun gk s6 wx=>∃ i:Nat,i≤S.length∧gk=S.length - i∧s6=.int .i64 (i:Int)∧Below w0.heap.size w0 wx)
   case atStart=>exact ⟨0,by omega,rfl,rfl,HB.out⟩
   case round =>
    clear HB
    obtain ⟨i,hi,rfl,rfl,hB⟩:=hrel
    have HB:Hid (Below w0.heap.size w0 wr):=hB
    have p0:=cl_kept hB HX.out.2.1
    have p1:=cl_kept hB HX.out.2.2.2
    have zp:w.heap.size<wr.heap.size:=World.block_lt_of_cell? _ _ p0
    have zp1:w.heap.size+1<wr.heap.size:=World.block_lt_of_cell? _ _ p1
    clear hB
    by_cases h1:i<S.length
    ·have i1:(i:Int)<(S.length:Int):=by omega
     have i0:(0:Int)≤(i:Int):=by omega
     obtain ⟨b1,sa1,sc1,rfl,r0,r1,r2,r3,hT1⟩:=(HR.out.2.2.1.kept (bl_via HB0.out HB.out)) i h1
     obtain ⟨b2,sa2,sc2,rfl,s0,s1,s2,s3,hT2⟩:=(HR.out.2.2.2.1.kept (bl_via HB0.out HB.out)) i h1
     have hle:=HR.out.2.2.2.2 S[i] (List.getElem_mem h1)
     obtain ⟨⟨⟨x,y,k⟩,T⟩,hsi⟩:∃ s,s=S[i]:=⟨_,rfl⟩
     rw [← hsi] at r0 r1 r2 r3 s0 s1 s2 s3 hT1 hT2 hle
     dsimp only at r0 r1 r2 r3 s0 s1 s2 s3 hT1 hT2 hle
     have CT:Hid (∀ W':World,Below wr.heap.size wr W'→Calls Tryz.prog 27 #[.slice sa1 T.length sc1,.slice sa2 T.length sc2] W' fun e w'=>e=.returned (.bool true)∧Below W'.heap.size W' w'):=fun W' hW'=>sameTris_yes sa1 sa2 sc1 sc2 T W' hle (hT1.kept hW') (hT2.kept hW')
     have zb1:b1<wr.heap.size:=World.block_lt_of_cell? _ _ r0
     have zb2:b2<wr.heap.size:=World.block_lt_of_cell? _ _ s0
     clear hsi hT1 hT2 hle
     go_wp2
     have kc:=Kin.cells wr
     have kn:Nonempty (Kin wr):=⟨⟨wr,bl_refl _⟩⟩
     refine wp_region_kin (by kernel_rfl) (by kernel_rfl) ?_
     repeat (go_big_quiet_step ((go_at_call 27;exact kin_of (CT.out _ (Kin.h _)))))
     refine wpQuiet_nil ?_
     intro wq hw'
     obtain ⟨nq,hw''⟩:=hw'
     have hq:Below wr.heap.size wr wq:=hw'' ▸ nq.h
     clear hw'' nq kc kn p0 p1 r0 r1 r2 r3 s0 s1 s2 s3
     go_wp2
     go_roundg (S.length - (i+1))
     case measure=>omega
     case rel=>exact ⟨i+1,by omega,rfl,by go_num,bl_via HB.out hq⟩
    ·have i1:¬ (i:Int)<(S.length:Int):=by omega
     go_wp2
     go_ret
     exact ⟨rfl,bl_via HB0.out HB.out⟩
open Go.RowKit Go.ChangeMaps
theorem facesCl_any (w:World) (pb n cc ra rk:Nat) (ad:Option Addr) (kd:Int×Int×Int×Int→Int) (nr q0 q1 q2 q3 qt:Int) (hK:KL w rk kd) (p0:w.cell? ⟨pb,0,none⟩=some (.slice ad n cc)) (p1:w.cell? ⟨pb,1,none⟩=some (.map (some ra))) (p2:w.cell? ⟨pb,2,none⟩=some (.map (some rk))) :
  Calls Tryz.prog 67 #[.int .i64 nr,.agg #[.int .i64 q0,.int .i64 q1,.int .i64 q2,.int .i64 q3,.int .i64 qt],.pointer (some ⟨pb,0,none⟩)] w fun e w'=>e=.returned (.bool (decide (kd (q0,q1,q2,q3)=0)))∧Below w.heap.size w w':=by
 have CK:Hid (∀ W':World,Below w.heap.size w W'→Calls Tryz.prog 68 #[.agg #[.slice ad n cc,.map (some ra),.map (some rk)],.agg #[.int .i64 q0,.int .i64 q1,.int .i64 q2,.int .i64 q3]] W' fun e w'=>e=.returned (.int .i64 (kd (q0,q1,q2,q3)))∧Below W'.heap.size W' w'):=fun W' hW'=>kind_any W' ad n cc ra rk kd q0 q1 q2 q3 (hK.kept hW')
 have zp:pb<w.heap.size:=World.block_lt_of_cell? _ _ p0
 clear hK
 obtain ⟨z,hz⟩:∃ z,z=kd (q0,q1,q2,q3):=⟨_,rfl⟩
 rw [← hz] at CK ⊢
 clear hz
 go_enter Tryz.func67,Tryz.ntmps67
 go_wp2_with (go_at_call 68;refine (CK.out _ (by with_reducible exact bl_alloc (bl_refl _))).mono ?_;rintro e w2 ⟨rfl,hb⟩;have HB:Hid (Below w.heap.size w w2):=bl_via (bl_alloc (bl_refl _)) hb;clear hb)
 exact bodyPost_ret (v:=.bool (decide (z=0))) (by simp [results,Tryz.results67,go_sem];rw [Bool.eq_iff_iff];simp) rfl ⟨rfl,HB.out⟩
set_option maxRecDepth 100000 in
set_option maxHeartbeats 3200000 in
theorem pfaces_any (w:World) (cc ra rk:Nat) (ad:Option Addr) (L:List (Int×Int×Int)) (kd:Int×Int×Int×Int→Int) (hs:Steps w) (hPA:PA w ad ra L) (hK:KL w rk kd) (hL:L.length≤300) (hnd:L.Nodup) (hbd:∀ t∈L,(0≤t.1∧t.1≤8)∧(0≤t.2.1∧t.2.1≤8)∧(0≤t.2.2∧t.2.2≤3)) :
  Calls Tryz.prog 29 #[.agg #[.slice ad L.length cc,.map (some ra),.map (some rk)]] w fun e w'=>∃ g part,e=.returned (.slice (some ⟨g,0,none⟩) L.length L.length)∧ZRow w' g L.length part∧PartsOk (fun e=>decide (kd e=0)) L part∧w.heap.size≤g∧Below w.heap.size w w':=by
 have CP:Hid (∀ W':World,Below w.heap.size w W'→W'.cell? ⟨w.heap.size,0,none⟩=some (.slice ad L.length cc)→W'.cell? ⟨w.heap.size,1,none⟩=some (.map (some ra))→W'.cell? ⟨w.heap.size,2,none⟩=some (.map (some rk))→Calls Tryz.prog 54 #[.agg #[.slice ad L.length cc,.map (some ra),.map (some rk)],.func (.func 67) #[] #[.pointer (some ⟨w.heap.size,0,none⟩)]] W' fun e w'=>∃ g part,e=.returned (.slice (some ⟨g,0,none⟩) L.length L.length)∧ZRow w' g L.length part∧PartsOk (fun e=>decide (kd e=0)) L part∧W'.heap.size≤g∧Below W'.heap.size W' w'):=fun W' hW' p0 p1 p2 =>
  parts_faces W' cc ra rk ad L w.heap.size _ (hs.kept hW') (hPA.kept hW') hL hnd hbd (fun nr q0 q1 q2 q3 qt W2 h2=>facesCl_any W2 w.heap.size L.length cc ra rk ad kd nr q0 q1 q2 q3 qt (hK.kept (bl_via hW' h2)) (cl_kept h2 p0) (cl_kept h2 p1) (cl_kept h2 p2))
 clear hs hPA hK hnd hbd
 go_enter Tryz.func29,Tryz.ntmps29
 go_wp2_with (go_at_call 54;refine (CP.out _ (by with_reducible exact bl_alloc (bl_refl _)) (by simp [go_sem]) (by simp [go_sem]) (by simp [go_sem])).mono ?_;rintro e w1 ⟨g,part,rfl,hZ,hPO,hg,hb⟩;have HW:Hid (ZRow w1 g L.length part∧PartsOk (fun e=>decide (kd e=0)) L part∧w.heap.size≤g∧Below w.heap.size w w1):=⟨hZ,hPO,Nat.le_trans (by simp) hg,bl_via (bl_alloc (bl_refl _)) hb⟩;clear hZ hPO hg hb)
 go_ret
 exact ⟨g,part,rfl,HW.out.1,HW.out.2.1,HW.out.2.2.1,HW.out.2.2.2⟩
end Go.Proofs.YtgpjaecgkkgehaaGreatDoor
