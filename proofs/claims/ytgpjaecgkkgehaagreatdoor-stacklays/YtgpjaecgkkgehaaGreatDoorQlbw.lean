/- A part of the proof of stackLays_holds. -/
import Derived.Test.YtgpjaecgkkgehaaGreatDoorQlbv
import Derived.Test.YtgpjaecgkkgehaaGreatDoorQlbm
import Derived.Test.YtgpjaecgkkgehaaGreatDoorQlal
set_option maxRecDepth 100000
set_option maxHeartbeats 40000000
namespace Go.Proofs.YtgpjaecgkkgehaaGreatDoor
open Go.RowKit
def tgn (L:List (Int×Int×Int)) (R:List Nat):List (Int×Int×Int):=R.map fun j=>L.getD j (0,0,0)
theorem tgn_take {L:List (Int×Int×Int)} {R:List Nat} {i:Nat} (hi:i<R.length):tgn L (R.take (i+1))=tgn L (R.take i)++[L.getD R[i] (0,0,0)]:=by
 unfold tgn
 rw [List.take_add_one,List.getElem?_eq_getElem hi,List.map_append]
 rfl
def NRow (w:World) (g o:Nat) (R:List Nat):Prop := ∀i (h:i<R.length),w.cell? ⟨g,o+i,none⟩=some (.int .i64 ((R[i]:Nat):Int))
theorem NRow.kept {w w':World} {g o:Nat} {R:List Nat} (h:NRow w g o R) (hb:Bl w w'):NRow w' g o R:=fun i hi=>Qa hb (h i hi)
theorem named_any (w:World) (ad:Option Addr) (cc ra rk gm cm pc gn on cn:Nat) (pa:Option Addr) (L:List (Int×Int×Int)) (R:List Nat) (hT:TRow w ad L) (hN:NRow w gn on R) (hR:∀j∈R,j<L.length) (hRl:R.length≤300) (_hL:L.length≤300) :
  Calls Tryz.prog 112 #[pileV ad L.length cc ra rk gm cm pa pc,.slice (some ⟨gn,on,none⟩) R.length cn] w fun e w'=>∃a c,e=.returned (.slice a R.length c)∧TRow w' a (tgn L R)∧Bl w w'∧∀g,a=some ⟨g,0,none⟩→w.heap.size≤g∧g<w'.heap.size:=by
 have HR:Hid (TRow w ad L∧NRow w gn on R∧∀j∈R,j<L.length):=⟨hT,hN,hR⟩
 obtain ⟨i3,hi3,hz30,hz31,hz32⟩:=info_parts inf23
 have HI:Hid (Tryz.prog.info? 56=some i3∧i3.zero=some (.agg #[.int .i64 0,.int .i64 0,.int .i64 0])∧i3.size=3∧i3.bytes=24):=⟨hi3,hz30,hz31,hz32⟩
 clear hT hN hR hi3 hz30 hz31 hz32
 unfold pileV
 go_enter Tryz.func112,Tryz.ntmps112
 go_wp2_with (at_make;refine wpList_make_own _ rfl (.const (.int .i64 0)) (.tmp 9) 57 rfl (w.heap.size+1) 56 i3 (.agg #[.int .i64 0,.int .i64 0,.int .i64 0]) 3 Tryz.underlying57 HI.out.1 HI.out.2.1 HI.out.2.2.1 .i64 .i64 _ R.length rfl rfl rfl (by rw [HI.out.2.2.2];omega) (by unfold maxLen;omega) (by simp) ?mk)
 case mk =>
  intro w1 hown hg1
  have hb1:Below (w.alloc (.cells #[.slice ad L.length cc,.map (some ra),.map (some rk),.slice (some ⟨gm,0,none⟩) L.length cm,.slice pa L.length pc] 70)).heap.size (w.alloc (.cells #[.slice ad L.length cc,.map (some ra),.map (some rk),.slice (some ⟨gm,0,none⟩) L.length cm,.slice pa L.length pc] 70)) w1:=(Below.refl _ _).grown hg1 (Nat.le_refl _) (fun k h=>by cases h)
  have HB1:Hid (Below (w.alloc (.cells #[.slice ad L.length cc,.map (some ra),.map (some rk),.slice (some ⟨gm,0,none⟩) L.length cm,.slice pa L.length pc] 70)).heap.size (w.alloc (.cells #[.slice ad L.length cc,.map (some ra),.map (some rk),.slice (some ⟨gm,0,none⟩) L.length cm,.slice pa L.length pc] 70)) w1∧w1.ownsRow (w.heap.size+1) 56 3 (.slice (some ⟨w.heap.size+1,0,none⟩) 0 R.length) 0 []):=⟨hb1,by simpa using hown⟩
  clear hown hg1 hb1
  go_wp2
  go_loopg [5,13] R.length (fun gk s5 s13 wx=>∃(i:Nat) (v:Value),i≤R.length∧gk=R.length-i∧v=s5∧s13=.int .i64 (i:Int)∧wx.ownsRow (w.heap.size+1) 56 3 v i (flatV (tgn L (R.take i)))∧Below (w.alloc (.cells #[.slice ad L.length cc,.map (some ra),.map (some rk),.slice (some ⟨gm,0,none⟩) L.length cm,.slice pa L.length pc] 70)).heap.size (w.alloc (.cells #[.slice ad L.length cc,.map (some ra),.map (some rk),.slice (some ⟨gm,0,none⟩) L.length cm,.slice pa L.length pc] 70)) wx)
  case atStart=>exact ⟨0,_,by omega,rfl,rfl,rfl,by simpa [tgn,flatV] using HB1.out.2,HB1.out.1⟩
  case round =>
   clear HB1
   obtain ⟨i,v,hi,rfl,rfl,rfl,hO,hB⟩:=hrel
   have HB:Hid (Bl w wr):=Qe (Qb (Qc _)) hB
   have p0:wr.cell? ⟨w.heap.size,0,none⟩=some (.slice ad L.length cc):=Qa hB (by simp [go_sem])
   have zp:w.heap.size<wr.heap.size:=bk p0
   have HO:Hid (wr.ownsRow (w.heap.size+1) 56 3 v i (flatV (tgn L (R.take i)))∧Below (w.alloc (.cells #[.slice ad L.length cc,.map (some ra),.map (some rk),.slice (some ⟨gm,0,none⟩) L.length cm,.slice pa L.length pc] 70)).heap.size (w.alloc (.cells #[.slice ad L.length cc,.map (some ra),.map (some rk),.slice (some ⟨gm,0,none⟩) L.length cm,.slice pa L.length pc] 70)) wr):=⟨hO,hB⟩
   have zw:w.heap.size+1≤wr.heap.size:=by have:=hB.size;simp at this;omega
   clear hO hB
   by_cases h1:i<R.length
   ·have i1:(i:Int)<(R.length:Int):=by omega
    have i0:(0:Int)≤(i:Int):=by omega
    have r0:=Qa HB.out (HR.out.2.1 i h1)
    have zn:gn<wr.heap.size:=bk r0
    have hj:=HR.out.2.2 R[i] (List.getElem_mem h1)
    obtain ⟨j,hje⟩:∃j,j=R[i]:=⟨_,rfl⟩
    rw [←hje] at r0 hj
    have j1:(j:Int)<(L.length:Int):=by omega
    have j0:(0:Int)≤(j:Int):=by omega
    obtain ⟨gt_,rfl,t0,t1,t2⟩:=(HR.out.1.kept HB.out) j hj
    obtain ⟨x,y,k,hti⟩:∃x y k,L[j]=(x,y,k):=⟨_,_,_,rfl⟩
    have HE:Hid (tgn L (R.take (i+1))=tgn L (R.take i)++[(x,y,k)]):=by
     have:tgn L (R.take (i+1))=tgn L (R.take i)++[(x,y,k)]:=by
      rw [tgn_take h1,←hje,List.getD_eq_getElem?_getD,List.getElem?_eq_getElem hj,←hti]
      rfl
     exact this
    rw [hti] at t0 t1 t2
    dsimp only at t0 t1 t2
    have zt:gt_<wr.heap.size:=bk t0
    clear hje hti
    go_wp2_with (at_builtin;refine wpList_append_own _ rfl (.tmp 17) (.tmp 24) 57 rfl (w.heap.size+1) 56 i3 (.agg #[.int .i64 0,.int .i64 0,.int .i64 0]) 3 24 Tryz.underlying57 HI.out.1 HI.out.2.1 HI.out.2.2.1 HI.out.2.2.2 rfl (by decide) v i (flatV (tgn L (R.take i))) rfl (Qs HO.out.1 (Qb (Qc _))) ⟨wr.heap.size,0,none⟩ 1 1 [.int .i64 x,.int .i64 y,.int .i64 k] rfl rfl (Q9 wr x y k) (three_cell x y k) (by unfold maxLen;omega) (by omega) (by simp;omega) ?grow)
    case grow =>
     intro v' w3 hown hgrow _
     have HO3:Hid (w3.ownsRow (w.heap.size+1) 56 3 v' (i+1) (flatV (tgn L (R.take (i+1))))∧Below (w.alloc (.cells #[.slice (some ⟨gt_,0,none⟩) L.length cc,.map (some ra),.map (some rk),.slice (some ⟨gm,0,none⟩) L.length cm,.slice pa L.length pc] 70)).heap.size (w.alloc (.cells #[.slice (some ⟨gt_,0,none⟩) L.length cc,.map (some ra),.map (some rk),.slice (some ⟨gm,0,none⟩) L.length cm,.slice pa L.length pc] 70)) w3):=by
      refine ⟨?_,?_⟩
      ·rw [HE.out,Jq]
       exact hown
      ·refine (Qb HO.out.2).grown hgrow (Qb HO.out.2).size (fun k hk=>?_)
       have:=Q7 HO.out.1 k hk
       simp
       omega
     clear hown hgrow
     go_wp2
     go_roundg (R.length-(i+1))
     case measure=>omega
     case rel=>exact ⟨i+1,_,by omega,rfl,rfl,by go_num,HO3.out.1,HO3.out.2⟩
   ·have i1:¬(i:Int)<(R.length:Int):=by omega
    obtain rfl:i=R.length:=by omega
    have hO:=HO.out.1
    rw [List.take_length] at hO
    have hlen:(tgn L R).length=R.length:=by simp [tgn]
    obtain ⟨a,c,rfl,hT⟩:=Jk (l:=tgn L R) (by rw [hlen];exact hO)
    have HT:Hid (TRow wr a (tgn L R)∧Bl w wr∧∀g,a=some ⟨g,0,none⟩→w.heap.size≤g∧g<wr.heap.size):=⟨hT,HB.out,fun g e=>by
     have:=hO.lt g (by rw [e];rfl)
     exact ⟨by omega,this.2⟩⟩
    rw [hlen]
    clear hO hT HO HB hlen
    go_wp2
    go_ret
    exact ⟨a,⟨c,rfl⟩,HT.out⟩
end Go.Proofs.YtgpjaecgkkgehaaGreatDoor
namespace Go.Proofs.YtgpjaecgkkgehaaGreatDoor
open Go.RowKit Go.ChangeMaps
theorem placed_none (w:World) (W H:Int) (a cb:Option Addr) (m ca n ccap:Nat) (CP:Hid (∀V:World,Bl w V→Calls Tryz.prog 64 #[.agg #[.int .i64 W,.int .i64 H,.slice a m ca,.slice cb n ccap]] V fun e w'=>e=.returned (.tuple #[.slice none 0 0,.int .i64 10])∧Bl V w')) :
  Calls Tryz.prog 28 #[.agg #[.int .i64 W,.int .i64 H,.slice a m ca,.slice cb n ccap]] w fun e w'=>e=.returned (.tuple #[.agg #[.slice none 0 0,.map none,.map none,.slice none 0 0,.slice none 0 0],.int .i64 10])∧Bl w w':=by
 go_enter Tryz.func28,Tryz.ntmps28
 go_upto_region 2 with (go_at_call 64;refine (CP.out _ (by with_reducible exact Qb (Qb (Qc _)))).mono ?_;rintro e w2 ⟨rfl,hb2⟩;have HB2:Hid (Below ((w.alloc (.cells #[.int .i64 W,.int .i64 H,.slice a m ca,.slice cb n ccap] 25)).alloc (.cells #[.slice none 0 0,.map none,.map none,.slice none 0 0,.slice none 0 0] 70)).heap.size ((w.alloc (.cells #[.int .i64 W,.int .i64 H,.slice a m ca,.slice cb n ccap] 25)).alloc (.cells #[.slice none 0 0,.map none,.map none,.slice none 0 0,.slice none 0 0] 70)) w2):=hb2;clear hb2)
 have d0:w2.cell? ⟨w.heap.size+1,0,none⟩=some (.slice none 0 0):=Qa HB2.out (by simp [go_sem])
 have d1:w2.cell? ⟨w.heap.size+1,1,none⟩=some (.map none):=Qa HB2.out (by simp [go_sem])
 have d2:w2.cell? ⟨w.heap.size+1,2,none⟩=some (.map none):=Qa HB2.out (by simp [go_sem])
 have d3:w2.cell? ⟨w.heap.size+1,3,none⟩=some (.slice none 0 0):=Qa HB2.out (by simp [go_sem])
 have d4:w2.cell? ⟨w.heap.size+1,4,none⟩=some (.slice none 0 0):=Qa HB2.out (by simp [go_sem])
 have k0:w2.frozen? ⟨w.heap.size+1,0,none⟩=false:=(Below.frozen HB2.out (by simp)).trans (by simp [go_sem])
 have k1:w2.frozen? ⟨w.heap.size+1,1,none⟩=false:=(Below.frozen HB2.out (by simp)).trans (by simp [go_sem])
 have k2:w2.frozen? ⟨w.heap.size+1,2,none⟩=false:=(Below.frozen HB2.out (by simp)).trans (by simp [go_sem])
 have k3:w2.frozen? ⟨w.heap.size+1,3,none⟩=false:=(Below.frozen HB2.out (by simp)).trans (by simp [go_sem])
 have k4:w2.frozen? ⟨w.heap.size+1,4,none⟩=false:=(Below.frozen HB2.out (by simp)).trans (by simp [go_sem])
 have zD:w.heap.size+1<w2.heap.size:=bk d0
 go_wp2
 refine bodyPost_ret (v:=.tuple #[.agg #[.slice none 0 0,.map none,.map none,.slice none 0 0,.slice none 0 0],.int .i64 10]) (by simp [results,Tryz.results28,go_sem, *]) rfl ⟨rfl,?_⟩
 with_reducible repeat' (first|exact Qe (Qb (Qb (Qc _))) HB2.out|refine Ql ?_ ?_|refine Qf ?_|refine Qb ?_)
 all_goals (dsimp only;omega)
theorem lay_none (w:World) (W H:Int) (a cb ah:Option Addr) (m ca n ccap hn hc:Nat) (CP:Hid (∀V:World,Bl w V→Calls Tryz.prog 28 #[.agg #[.int .i64 W,.int .i64 H,.slice a m ca,.slice cb n ccap]] V fun e w'=>e=.returned (.tuple #[.agg #[.slice none 0 0,.map none,.map none,.slice none 0 0,.slice none 0 0],.int .i64 10])∧Bl V w')) :
  Calls Tryz.prog 7 #[.agg #[.int .i64 W,.int .i64 H,.slice a m ca,.slice cb n ccap],.slice ah hn hc] w fun e w'=>e=.returned (.tuple #[.agg #[.int .i64 0,.int .i64 0,.slice none 0 0,.slice none 0 0,.slice none 0 0,.slice none 0 0],.int .i64 10])∧Bl w w':=by
 go_enter Tryz.func7,Tryz.ntmps7
 go_upto_region 1 with fail
 refine Qr (fun W0 hW0=>?_)
 have hw0:Bl w W0:=by rw [hW0];exact Qb (Qb (Qb (Qc _)))
 have x00:W0.cell? ⟨w.heap.size,0,none⟩=some (.int .i64 W):=by rw [hW0];simp [go_sem]
 have x01:W0.cell? ⟨w.heap.size,1,none⟩=some (.int .i64 H):=by rw [hW0];simp [go_sem]
 have x02:W0.cell? ⟨w.heap.size,2,none⟩=some (.slice a m ca):=by rw [hW0];simp [go_sem]
 have x03:W0.cell? ⟨w.heap.size,3,none⟩=some (.slice cb n ccap):=by rw [hW0];simp [go_sem]
 have x04:W0.cell? ⟨w.heap.size+1,0,none⟩=some (.slice ah hn hc):=by rw [hW0];simp [go_sem]
 have y00:W0.cell? ⟨w.heap.size+2,0,none⟩=some (.int .i64 0):=by rw [hW0];simp [go_sem]
 have f00:W0.frozen? ⟨w.heap.size+2,0,none⟩=false:=by rw [hW0];simp [go_sem]
 have y01:W0.cell? ⟨w.heap.size+2,1,none⟩=some (.int .i64 0):=by rw [hW0];simp [go_sem]
 have f01:W0.frozen? ⟨w.heap.size+2,1,none⟩=false:=by rw [hW0];simp [go_sem]
 have y02:W0.cell? ⟨w.heap.size+2,2,none⟩=some (.slice none 0 0):=by rw [hW0];simp [go_sem]
 have f02:W0.frozen? ⟨w.heap.size+2,2,none⟩=false:=by rw [hW0];simp [go_sem]
 have y03:W0.cell? ⟨w.heap.size+2,3,none⟩=some (.slice none 0 0):=by rw [hW0];simp [go_sem]
 have f03:W0.frozen? ⟨w.heap.size+2,3,none⟩=false:=by rw [hW0];simp [go_sem]
 have y04:W0.cell? ⟨w.heap.size+2,4,none⟩=some (.slice none 0 0):=by rw [hW0];simp [go_sem]
 have f04:W0.frozen? ⟨w.heap.size+2,4,none⟩=false:=by rw [hW0];simp [go_sem]
 have y05:W0.cell? ⟨w.heap.size+2,5,none⟩=some (.slice none 0 0):=by rw [hW0];simp [go_sem]
 have f05:W0.frozen? ⟨w.heap.size+2,5,none⟩=false:=by rw [hW0];simp [go_sem]
 have z0:w.heap.size+2<W0.heap.size:=bk y00
 clear hW0
 go_upto_region 2 with (go_at_call 28;refine (CP.out _ hw0).mono ?_;rintro e w1 ⟨rfl,hb1⟩)
 have x10:=Qa hb1 x00
 have x11:=Qa hb1 x01
 have x12:=Qa hb1 x02
 have x13:=Qa hb1 x03
 have x14:=Qa hb1 x04
 have y10:=Qa hb1 y00
 have f10:=(hb1.frozen (p:=⟨w.heap.size+2,0,none⟩) z0).trans f00
 have y11:=Qa hb1 y01
 have f11:=(hb1.frozen (p:=⟨w.heap.size+2,1,none⟩) z0).trans f01
 have y12:=Qa hb1 y02
 have f12:=(hb1.frozen (p:=⟨w.heap.size+2,2,none⟩) z0).trans f02
 have y13:=Qa hb1 y03
 have f13:=(hb1.frozen (p:=⟨w.heap.size+2,3,none⟩) z0).trans f03
 have y14:=Qa hb1 y04
 have f14:=(hb1.frozen (p:=⟨w.heap.size+2,4,none⟩) z0).trans f04
 have y15:=Qa hb1 y05
 have f15:=(hb1.frozen (p:=⟨w.heap.size+2,5,none⟩) z0).trans f05
 have z1:=Nat.lt_of_lt_of_le z0 hb1.size
 clear x00 x01 x02 x03 x04 y00 f00 y01 f01 y02 f02 y03 f03 y04 f04 y05 f05
 have HB1:Hid (Bl w w1):=Qe hw0 hb1
 clear hb1 hw0 x10 x11 x12 x13 x14
 go_wp2
 refine bodyPost_ret (v:=.tuple #[.agg #[.int .i64 0,.int .i64 0,.slice none 0 0,.slice none 0 0,.slice none 0 0,.slice none 0 0],.int .i64 10]) (by simp [results,Tryz.results7,go_sem, *]) rfl ⟨rfl,?_⟩
 with_reducible repeat' (first|exact HB1.out|refine Ql ?_ ?_|refine Qf ?_|refine Qb ?_)
 all_goals (dsimp only;omega)
theorem ints_any (a:Option Addr) (c:Nat) (hs:List Int) (w:World) (hh:Row w a hs) (h1:hs.length≤17592186044416) :
  Calls Tryz.prog 9 #[.slice a hs.length c] w fun e w'=>∃a' c',e=.returned (.slice a' hs.length c')∧RowF w' w.heap.size a' hs∧Bl w w':=by
 have HZ:Hid (Row w a hs):=hh
 obtain ⟨i3,hi3,hz0,hz1,hz2⟩:=info_parts inf3
 have HI3:Hid (Tryz.prog.info? 3=some i3∧i3.zero=some (.int .i64 0)∧i3.size=1∧i3.bytes=8):=⟨hi3,hz0,hz1,hz2⟩
 clear hh hi3 hz0 hz1 hz2
 by_cases he:hs.length=0
 ·have hzz:hs=[]:=List.eq_nil_of_length_eq_zero he
  subst hzz
  go_enter Tryz.func9,Tryz.ntmps9
  go_wp2_with (at_builtin;refine Jh _ rfl (.const (.slice none 0 0)) (.tmp 3) 22 rfl 3 i3 Tryz.underlying22 HI3.out.1 a c rfl rfl ?_)
  go_ret
  exact ⟨none,0,rfl,Xq _ _ _,Qc _⟩
 ·obtain ⟨ba,off,rfl,hc⟩:=row_at HZ.out (by omega)
  have HC:Hid (∀j u,(hs.map (fun z=>Value.int .i64 z))[j]?=some u→w.cell? ((⟨ba,off,none⟩:Addr).add j)=some u):=hc
  clear hc
  go_enter Tryz.func9,Tryz.ntmps9
  go_wp2_with (at_builtin;refine wpList_append_grows _ rfl (.const (.slice none 0 0)) (.tmp 3) 22 rfl 3 i3 (.int .i64 0) 1 8 Tryz.underlying22 HI3.out.1 HI3.out.2.1 HI3.out.2.2.1 HI3.out.2.2.2 rfl (by decide) none 0 0 [] rfl (fun _=>⟨rfl,rfl⟩) rfl (by intro _ h;simp at h) ⟨ba,off,none⟩ hs.length c (hs.map (fun z=>Value.int .i64 z)) rfl (by simp) (by intro j u hu;exact HC.out j u hu) (by intro u hu;obtain ⟨z,_,rfl⟩:=List.mem_map.1 hu;rfl) (by omega) (by unfold maxLen;omega) (by omega) ?grow)
  case grow =>
   intro v' w' hown hgrow
   have hbel:Bl w w':=(Below.refl _ _).grown hgrow (Nat.le_refl _) (fun k h=>by cases h)
   obtain ⟨g,cap',rfl,hg,hrow⟩:=own_row (by simpa using hown) (by omega)
   have HR:Hid (RowF w' w.heap.size (some ⟨g,0,none⟩) hs∧Bl w w'):=⟨hrow,hbel⟩
   clear hown hgrow hbel hrow hg
   go_wp2
   go_ret
   exact ⟨_,_,rfl,HR.out.1,HR.out.2⟩
theorem none_yes (w:World) :
  Calls Tryz.prog 11 #[.agg #[.int .i64 0,.int .i64 0,.slice none 0 0,.slice none 0 0,.slice none 0 0,.slice none 0 0]] w fun e w'=>e=.returned (.bool true)∧Bl w w':=by
 go_enter Tryz.func11,Tryz.ntmps11
 go_wp2
 go_ret
 exact ⟨rfl,by with_reducible repeat (first|exact Qc _|refine Qf ?_|refine Qb ?_)⟩
end Go.Proofs.YtgpjaecgkkgehaaGreatDoor
