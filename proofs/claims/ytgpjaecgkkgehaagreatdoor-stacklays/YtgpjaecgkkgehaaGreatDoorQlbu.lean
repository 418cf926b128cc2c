/- The reference lays stacks. -/
import Derived.Test.YtgpjaecgkkgehaaGreatDoorQlbj
set_option maxRecDepth 100000
set_option maxHeartbeats 40000000
namespace Go.Proofs.YtgpjaecgkkgehaaGreatDoor
open Go.RowKit Go.ChangeMaps
theorem TRow.farE {w:World} {a:Option Addr} {l:List (Int×Int×Int)} (h:TRow w a l) {p:Addr} {u:Value} (hp:∀q,a=some ⟨q,0,none⟩→q≠p.block):TRow (w.setCell p u) a l:=fun i hi=>by
 obtain ⟨g,e,c0,c1,c2⟩:=h i hi
 have hg:=hp g e
 exact ⟨g,e,Qj c0 (by dsimp only;exact hg),Qj c1 (by dsimp only;exact hg),Qj c2 (by dsimp only;exact hg)⟩
def SRowE (w:World) (base:Nat) (a:Option Addr) (S:List ((Int×Int×Int)×List (Int×Int×Int))):Prop :=
 ∀i (h:i<S.length),∃g sa sc,a=some ⟨g,0,none⟩∧base≤g∧w.cell? ⟨g,i*4,none⟩=some (.int .i64 S[i].1.1)∧w.cell? ⟨g,i*4+1,none⟩=some (.int .i64 S[i].1.2.1)∧w.cell? ⟨g,i*4+2,none⟩=some (.int .i64 S[i].1.2.2)∧w.cell? ⟨g,i*4+3,none⟩=some (.slice sa S[i].2.length sc)∧TRow w sa S[i].2∧∀q,sa=some ⟨q,0,none⟩→base≤q
theorem SRowE.row {w:World} {base:Nat} {a:Option Addr} {S:List ((Int×Int×Int)×List (Int×Int×Int))} (h:SRowE w base a S):SRow w a S:=fun i hi=>by
 obtain ⟨g,sa,sc,e,_,c0,c1,c2,c3,ht,_⟩:=h i hi
 exact ⟨g,sa,sc,e,c0,c1,c2,c3,ht⟩
theorem SRowE.low {w:World} {base base':Nat} {a:Option Addr} {S:List ((Int×Int×Int)×List (Int×Int×Int))} (h:SRowE w base a S) (hl:base'≤base):SRowE w base' a S:=fun i hi=>by
 obtain ⟨g,sa,sc,e,h1,c0,c1,c2,c3,ht,hq⟩:=h i hi
 exact ⟨g,sa,sc,e,by omega,c0,c1,c2,c3,ht,fun q e=>by have:=hq q e;omega⟩
theorem SRowE.set {w:World} {base:Nat} {a:Option Addr} {S:List ((Int×Int×Int)×List (Int×Int×Int))} (h:SRowE w base a S) {p:Addr} {u:Value} (hp:p.block<base):SRowE (w.setCell p u) base a S:=fun i hi=>by
 obtain ⟨g,sa,sc,e,h1,c0,c1,c2,c3,ht,hq⟩:=h i hi
 exact ⟨g,sa,sc,e,h1,Qj c0 (by dsimp only;omega),Qj c1 (by dsimp only;omega),Qj c2 (by dsimp only;omega),Qj c3 (by dsimp only;omega),ht.farE (fun q e=>by have:=hq q e;omega),hq⟩
theorem MRow.setE {w:World} {g n:Nat} {M:Nat→M6} (h:MRow w g n M) {b o:Nat} {u:Value} (hne:g≠b):MRow (w.setCell ⟨b,o,none⟩ u) g n M:=h.grown (Qm w b o u) (by simpa using hne)
theorem HSt.srowE {w0 wx:World} {B base:Nat} {p0 p1 p2 p3 p4 v:Value} {R:List ((Int×Int×Int)×Value)} {S:List ((Int×Int×Int)×List (Int×Int×Int))} (h:HSt w0 wx B p0 p1 p2 p3 p4 v R S) (hb:base≤B):∃t u,v=.slice t S.length u∧SRowE wx base t S:=by
 obtain ⟨a,c,hv⟩:=own_any h.own
 refine ⟨a,c,by rw [hv,h.len],fun i hi=>?_⟩
 have hiR:i<R.length:=by rw [h.len];exact hi
 have ho:=h.own
 rw [hv] at ho
 obtain ⟨g,rfl⟩:=own_some2 ho (by omega)
 have h2:=h
 rw [hv] at h2
 obtain ⟨c0,c1,c2,c3⟩:=h2.cells rfl hiR
 obtain ⟨e1,a9,c9,e2,ht⟩:=h.hold i hiR hi
 have hap:=h.apart R[i] (List.getElem_mem hiR)
 rw [e1] at c0 c1 c2
 rw [e2] at c3 hap
 have hg:=(ho.lt g rfl).1
 exact ⟨g,a9,c9,rfl,by omega,c0,c1,c2,c3,ht,fun q e=>by
  subst e
  have:=(hap q rfl).1
  omega⟩
def HeapF (w w':World) (W H:Int) (m n nn:Nat) (zs ks:List Int) (M:Nat→M6) (S:List ((Int×Int×Int)×List (Int×Int×Int))) (e:Ending):Prop := ∃a ca b cb g c t u,e=.returned (.agg #[.int .i64 W,.int .i64 H,.slice a m ca,.slice b n cb,.slice (some ⟨g,0,none⟩) nn c,.slice t S.length u])∧RowF w' w.heap.size a zs∧RowF w' w.heap.size b ks∧(MRow w' g nn M∧w.heap.size≤g)∧SRowE w' w.heap.size t S∧Bl w w'
def BoxR (w:World) (g:Nat):Prop:=(w.cell? ⟨g,0,none⟩=some (.int .i64 0)∧w.cell? ⟨g,1,none⟩=some (.int .i64 0)∧w.cell? ⟨g,2,none⟩=some (.slice none 0 0)∧w.cell? ⟨g,3,none⟩=some (.slice none 0 0)∧w.cell? ⟨g,4,none⟩=some (.slice none 0 0)∧w.cell? ⟨g,5,none⟩=some (.slice none 0 0))∧∀q,w.frozen? ⟨g,q,none⟩=false
theorem BoxR.kept {w w':World} {g:Nat} (h:BoxR w g) (hb:Bl w w'):BoxR w' g:=by
 obtain ⟨⟨c0,c1,c2,c3,c4,c5⟩,hf⟩:=h
 exact ⟨⟨Qa hb c0,Qa hb c1,Qa hb c2,Qa hb c3,Qa hb c4,Qa hb c5⟩,fun q=>(hb.frozen (p:=⟨g,q,none⟩) (by have:=bk c0;exact this)).trans (hf q)⟩
theorem boxR_new {w:World} (o):BoxR ((w.alloc o).alloc (.cells #[.int .i64 0,.int .i64 0,.slice none 0 0,.slice none 0 0,.slice none 0 0,.slice none 0 0] 29)) (w.heap.size+1):=by
 have e:w.heap.size+1=(w.alloc o).heap.size:=by simp
 rw [e]
 exact ⟨⟨by simp [go_sem],by simp [go_sem],by simp [go_sem],by simp [go_sem],by simp [go_sem],by simp [go_sem]⟩,fun q=>by simp [go_sem]⟩
theorem heaped_any (W H b off cap m n ccap nn gm cm gh oh ch:Nat) (cb:Option Addr) (zs ks hs:List Int) (L:List (Int×Int×Int)) (M:Nat→M6) (w:World)
  (CT:Hid (∀W':World,Bl w W'→Calls Tryz.prog 38 #[.agg #[.int .i64 (W:Int),.int .i64 (H:Int),.slice (some ⟨b,off,none⟩) m cap,.slice cb n ccap]] W' fun e w'=>∃a c,e=.returned (.slice a nn c)∧TRow w' a L∧Bl W' w'))
  (CO:Hid (∀W':World,Bl w W'→Calls Tryz.prog 8 #[.agg #[.int .i64 (W:Int),.int .i64 (H:Int),.slice (some ⟨b,off,none⟩) m cap,.slice cb n ccap]] W' fun e w'=>∃a' ca' b' cb',e=.returned (.agg #[.int .i64 (W:Int),.int .i64 (H:Int),.slice a' m ca',.slice b' n cb'])∧RowF w' W'.heap.size a' zs∧RowF w' W'.heap.size b' ks∧Bl W' w'))
  (hnn:nn=L.length) (h0:0<nn) (hlen:nn≤256) (hM:MRow w gm nn M) (hG:∀i,i<nn→GoodM (M i) 48000) (hh:Row w (some ⟨gh,oh,none⟩) hs) (hhl:hs.length=nn) (hbd:∀t∈L,(0≤t.1∧t.1≤8)∧(0≤t.2.1∧t.2.1≤8)∧(0≤t.2.2∧t.2.2≤3)) (hnd:L.Nodup) :
  Calls Tryz.prog 48 #[.agg #[.int .i64 (W:Int),.int .i64 (H:Int),.slice (some ⟨b,off,none⟩) m cap,.slice cb n ccap],.slice (some ⟨gm,0,none⟩) nn cm,.slice (some ⟨gh,oh,none⟩) nn ch] w fun e w'=>HeapF w w' (W:Int) (H:Int) m n nn zs ks M (trS L (hpN (mvP L M) (hvs hs) nn)) e:=by
 obtain ⟨i6,hi6,hz60,hz61,hz62⟩:=info_parts inf59
 have HI6:Hid (Tryz.prog.info? 89=some i6∧i6.zero=some (.agg #[.int .i64 0,.int .i64 0,.int .i64 0,.int .i64 0,.int .i64 0,.int .i64 0])∧i6.size=6∧i6.bytes=48):=⟨hi6,hz60,hz61,hz62⟩
 obtain ⟨i98,hj1,hj2,hj3,hj4⟩:=info_parts inf98H
 have HI98:Hid (Tryz.prog.info? 102=some i98∧i98.zero=some (.agg #[.int .i64 0,.int .i64 0,.int .i64 0,.slice none 0 0])∧i98.size=4∧i98.bytes=48):=⟨hj1,hj2,hj3,hj4⟩
 clear hj1 hj2 hj3 hj4
 obtain ⟨i85,hj1,hj2,hj3,hj4⟩:=info_parts inf23
 have HI85:Hid (Tryz.prog.info? 56=some i85∧i85.zero=some (.agg #[.int .i64 0,.int .i64 0,.int .i64 0])∧i85.size=3∧i85.bytes=24):=⟨hj1,hj2,hj3,hj4⟩
 clear hj1 hj2 hj3 hj4
 have HD:Hid (nn=L.length∧MRow w gm nn M∧(∀i,i<nn→GoodM (M i) 48000)∧Row w (some ⟨gh,oh,none⟩) hs∧hs.length=nn∧L.Nodup∧∀t∈L,(0≤t.1∧t.1≤8)∧(0≤t.2.1∧t.2.1≤8)∧(0≤t.2.2∧t.2.2≤3)):=⟨hnn,hM,hG,hh,hhl,hnd,hbd⟩
 clear hnn hM hG hh hhl hbd hnd hi6 hz60 hz61 hz62
 go_enter Tryz.func48,Tryz.ntmps48
 go_upto_region 1 with fail
 refine Qr (fun W0 hW0=>?_)
 have hw0:Bl w W0:=by rw [hW0];exact Qb (Qb (Qc _))
 have x00:W0.cell? ⟨w.heap.size,0,none⟩=some (.int .i64 (W:Int)):=by rw [hW0];simp [go_sem]
 have x01:W0.cell? ⟨w.heap.size,1,none⟩=some (.int .i64 (H:Int)):=by rw [hW0];simp [go_sem]
 have x02:W0.cell? ⟨w.heap.size,2,none⟩=some (.slice (some ⟨b,off,none⟩) m cap):=by rw [hW0];simp [go_sem]
 have x03:W0.cell? ⟨w.heap.size,3,none⟩=some (.slice cb n ccap):=by rw [hW0];simp [go_sem]
 have z0:w.heap.size+1<W0.heap.size:=by rw [hW0];simp
 have xb:BoxR W0 (w.heap.size+1):=by rw [hW0];exact boxR_new _
 have HXB0:Hid (BoxR W0 (w.heap.size+1)):=xb
 clear hW0 xb
 go_upto_region 2 with (go_at_call 38;refine (CT.out _ hw0).mono ?_;rintro e w2 ⟨a7,c7,rfl,hT,hb2⟩)
 have x20:=Qa hb2 x00
 have x21:=Qa hb2 x01
 have x22:=Qa hb2 x02
 have x23:=Qa hb2 x03
 have z2:w.heap.size<w2.heap.size:=bk x20
 have HT:Hid (TRow w2 a7 L∧Bl w w2):=⟨hT,Qe hw0 hb2⟩
 have HXB2:Hid (BoxR w2 (w.heap.size+1)):=HXB0.out.kept hb2
 clear x00 x01 x02 x03 hT hb2 hw0
 go_upto_region 3 with (first
  | (go_at_call 8;refine (CO.out _ HT.out.2).mono ?_;rintro e w3 ⟨a',ca',b',cb',rfl,hz,hk,hb3⟩;have HB3:Hid (Bl w2 w3∧RowF w3 w2.heap.size a' zs∧RowF w3 w2.heap.size b' ks):=⟨hb3,hz,hk⟩;clear hz hk hb3)
  | (at_builtin;refine wpList_append_grows _ rfl (.const (.slice none 0 0)) (.tmp 20) 26 rfl 89 i6 (.agg #[.int .i64 0,.int .i64 0,.int .i64 0,.int .i64 0,.int .i64 0,.int .i64 0]) 6 48 Tryz.underlying26 HI6.out.1 HI6.out.2.1 HI6.out.2.2.1 HI6.out.2.2.2 rfl (by decide) none 0 0 [] rfl (fun _=>⟨rfl,rfl⟩) rfl (by intro _ h;simp at h) ⟨gm,0,none⟩ nn cm (flatM M nn) rfl (flatM_len M _) ((HD.out.2.1.kept (Qe HT.out.2 HB3.out.1)).flat) (by intro u hu;simp [flatM] at hu;obtain ⟨i,_,hu⟩:=hu;rcases hu with rfl | rfl | rfl | rfl | rfl | rfl<;>rfl) (by omega) (by unfold maxLen;omega) (by omega) ?_;intro v' w4 hown hgrow;rw [Nat.zero_add,List.nil_append] at hown;obtain ⟨g',c',rfl⟩:=own_sliceW hown h0;have HB4:Hid (Bl w3 w4∧MRow w4 g' nn M∧w3.heap.size≤g'):=⟨(Below.refl _ _).grown hgrow (Nat.le_refl _) (fun k h=>by cases h),own_maps hown,(hown.lt g' rfl).1⟩;clear hown hgrow))
 refine Qr (fun W5 hW5=>?_)
 obtain ⟨B,hB⟩:∃B,B=w4.heap.size:=⟨_,rfl⟩
 have hb5:Bl w4 W5:=by
  rw [hW5]
  with_reducible repeat' (first|exact Qc _|refine Ql ?_ ?_|refine Qb ?_)
  all_goals (dsimp only;omega)
 have hw4:Bl w w4:=Qe HT.out.2 (Qe HB3.out.1 HB4.out.1)
 have HXB4:Hid (BoxR w4 (w.heap.size+1)):=HXB2.out.kept (Qe HB3.out.1 HB4.out.1)
 have HS0:Hid (HSt w4 W5 B (.int .i64 (W:Int)) (.int .i64 (H:Int)) (.slice a' m ca') (.slice b' n cb') (.slice (some ⟨g',0,none⟩) nn c') (.slice none 0 0) [] []):=hst_nil (by rw [hW5,hB];simp [go_sem]) (by rw [hW5,hB];simp [go_sem]) (by rw [hW5,hB];simp [go_sem]) (by rw [hW5,hB];simp [go_sem]) (by rw [hW5,hB];simp [go_sem]) (by rw [hW5,hB];simp [go_sem]) (by rw [hW5,hB];simp [go_sem]) (by rw [hB];exact Nat.le_refl _) hb5
 have HL4:Hid (TRow w4 a7 L∧MRow w4 g' nn M∧MRow w4 gm nn M∧Row w4 (some ⟨gh,oh,none⟩) hs∧Row w4 a' zs∧Row w4 b' ks∧Bl w w4∧B=w4.heap.size):=⟨HT.out.1.kept (Qe HB3.out.1 HB4.out.1),HB4.out.2.1,HD.out.2.1.kept hw4,HD.out.2.2.2.1.kept hw4,HB3.out.2.1.row.kept HB4.out.1,HB3.out.2.2.row.kept HB4.out.1,hw4,hB⟩
 have HL5:Hid (RowF w4 w2.heap.size a' zs∧RowF w4 w2.heap.size b' ks∧w2.heap.size≤g'∧w.heap.size+1<w2.heap.size∧w2.heap.size≤w4.heap.size):=⟨HB3.out.2.1.kept HB4.out.1,HB3.out.2.2.kept HB4.out.1,Nat.le_trans HB3.out.1.size HB4.out.2.2,bk HXB2.out.1.1,Nat.le_trans HB3.out.1.size HB4.out.1.size⟩
 rw [←hB]
 clear hW5 hb5 hw4 hB x20 x21 x22 x23 HT HB3 HB4 CT CO HI6 z0 z2 HXB0 HXB2
 go_wp2
 go_loopg [9] nn (fun gk s9 wx=>∃(i:Nat) (v:Value) (R:List ((Int×Int×Int)×Value)),i≤nn∧gk=nn-i∧s9=.int .i64 (i:Int)∧HSt w4 wx B (.int .i64 (W:Int)) (.int .i64 (H:Int)) (.slice a' m ca') (.slice b' n cb') (.slice (some ⟨g',0,none⟩) nn c') v R (trS L (hpN (mvP L M) (hvs hs) i))∧CapsOk R)
 case atStart=>exact ⟨0,_,[],by omega,rfl,rfl,HS0.out,fun x hx=>by simp at hx⟩
 case round =>
  clear HS0
  obtain ⟨i,v,R,hi,rfl,rfl,hS,hcp⟩:=hrel
  have HCP:Hid (CapsOk R):=hcp
  clear hcp
  have HS:Hid (HSt w4 wr B (.int .i64 (W:Int)) (.int .i64 (H:Int)) (.slice a' m ca') (.slice b' n cb') (.slice (some ⟨g',0,none⟩) nn c') v R (trS L (hpN (mvP L M) (hvs hs) i))):=hS
  clear hS
  by_cases h1:i<nn
  ·have i1:(i:Int)<(nn:Int):=by omega
   have i0:(0:Int)≤(i:Int):=by omega
   have hiL:i<L.length:=by rw [←HD.out.1];exact h1
   obtain ⟨⟨m0,m1,m2,m3,m4,m5⟩,_⟩:=(HL4.out.2.2.1.kept HS.out.bel) i h1
   obtain ⟨g7,e7,t0,t1,t2⟩:=(HL4.out.1.kept HS.out.bel) i hiL
   subst e7
   have hti:L[i]=tg L i:=by unfold tg;rw [List.getD_eq_getElem?_getD,List.getElem?_eq_getElem hiL];rfl
   rw [hti] at t0 t1 t2
   have HC:Hid (∀V:World,Calls Tryz.prog 57 #[.agg #[.int .i64 (M i).1,.int .i64 (M i).2.1,.int .i64 (M i).2.2.1,.int .i64 (M i).2.2.2.1,.int .i64 (M i).2.2.2.2.1,.int .i64 (M i).2.2.2.2.2],.agg #[.int .i64 (tg L i).1,.int .i64 (tg L i).2.1,.int .i64 (tg L i).2.2]] V fun r w'=>r=.returned (.agg #[.int .i64 (mvP L M i).1,.int .i64 (mvP L M i).2.1,.int .i64 (mvP L M i).2.2])∧Bl V w'):=fun V=>MoveOf_small (M i) (tg L i) V (HD.out.2.2.1 i h1) (by rw [←hti];exact HD.out.2.2.2.2.2.2 _ (List.getElem_mem hiL))
   have zm:gm<wr.heap.size:=bk m0
   have zt:g7<wr.heap.size:=bk t0
   obtain ⟨mi,hmi⟩:∃mi,mi=M i:=⟨_,rfl⟩
   obtain ⟨ti,hti2⟩:∃ti,ti=tg L i:=⟨_,rfl⟩
   obtain ⟨pi,hpi⟩:∃pi,pi=mvP L M i:=⟨_,rfl⟩
   rw [←hmi] at m0 m1 m2 m3 m4 m5
   rw [←hti2] at t0 t1 t2
   rw [←hmi,←hti2,←hpi] at HC
   obtain ⟨A0,A1,A2,A3,A4,A5⟩:=mi
   obtain ⟨T0,T1,T2⟩:=ti
   obtain ⟨P0,P1,P2⟩:=pi
   dsimp only at m0 m1 m2 m3 m4 m5 t0 t1 t2
   have HPI:Hid ((P0,P1,P2)=mvP L M i∧(T0,T1,T2)=tg L i):=⟨hpi,hti2⟩
   clear hmi hti2 hpi hti hiL
   go_upto_region 6 with fail
   go_cut [10] (fun s10 wx=>∃A:Nat,s10=.pointer (some ⟨A,0,none⟩)∧wx.cell? ⟨A,0,none⟩=some (.int .i64 P0)∧wx.cell? ⟨A,1,none⟩=some (.int .i64 P1)∧wx.cell? ⟨A,2,none⟩=some (.int .i64 P2)∧wr.heap.size≤A∧Bl wr wx)
   case first =>
    go_region_held3 (fun w'=>w'.cell? ⟨gm,i*6,none⟩=some (.int .i64 A0)∧w'.cell? ⟨gm,i*6+1,none⟩=some (.int .i64 A1)∧w'.cell? ⟨gm,i*6+2,none⟩=some (.int .i64 A2)∧w'.cell? ⟨gm,i*6+3,none⟩=some (.int .i64 A3)∧w'.cell? ⟨gm,i*6+4,none⟩=some (.int .i64 A4)∧w'.cell? ⟨gm,i*6+5,none⟩=some (.int .i64 A5)∧w'.cell? ⟨g7,i*3,none⟩=some (.int .i64 T0)∧w'.cell? ⟨g7,i*3+1,none⟩=some (.int .i64 T1)∧w'.cell? ⟨g7,i*3+2,none⟩=some (.int .i64 T2))
     ((refine ⟨?_,?_,?_,?_,?_,?_,?_,?_,?_⟩<;>(with_reducible repeat (first|assumption|refine Qh ?_|refine Qi ?_|refine Qa hq8 ?_|refine Qj ?_ (by dsimp only;omega)))))
     (first|(go_at_call 57;refine (HC.out _).mono ?_;rintro e w8 ⟨rfl,hb8⟩;have hq8:Bl wr w8:=Qe (by with_reducible repeat (first|exact Qc _|refine Qf ?_|refine Qb ?_)) hb8;have hz8:=hq8.size;(first|(refine box3k hb8 ?_;rintro ⟨b0,b1,b2,k0,k1,k2⟩;have hz9:wr.heap.size<w8.heap.size:=bk b0)|skip)))
    all_goals
     go_wp2
     go_meet
     case rel =>
      first
      | exact ⟨_,rfl,by simp [go_sem],by simp [go_sem],by simp [go_sem],hz8,Qb hq8⟩
      | exact ⟨_,rfl,by simp [go_sem,b0],by simp [go_sem,b1],by simp [go_sem,b2],Nat.le_refl _,Ql (Ql (Ql hq8 (Nat.le_refl _)) (Nat.le_refl _)) (Nat.le_refl _)⟩
   case rest =>
    obtain ⟨A,rfl,a0,a1,a2,hA,hbA⟩:=hcut
    obtain ⟨wA,hwA⟩:∃x,x=wc:=⟨_,rfl⟩
    subst hwA
    obtain ⟨S,hSd⟩:∃S,S=hpN (mvP L M) (hvs hs) i:=⟨_,rfl⟩
    have hS1:=HS.out.kept hbA
    rw [←hSd] at hS1
    obtain ⟨av,cv,hv⟩:=own_any hS1.own
    obtain ⟨r,hr⟩:∃r,r=R.length:=⟨_,rfl⟩
    subst hv
    rw [←hr] at hS1
    have HS1:Hid (HSt w4 wA B (.int .i64 (W:Int)) (.int .i64 (H:Int)) (.slice a' m ca') (.slice b' n cb') (.slice (some ⟨g',0,none⟩) nn c') (.slice av r cv) R (trS L S)):=hS1
    have HR:Hid (r=R.length∧r=S.length∧S=hpN (mvP L M) (hvs hs) i):=⟨hr,by rw [hr,hS1.len];simp [trS],hSd⟩
    have HA:Hid (w4.heap.size≤B∧B<A∧∀g,(Value.slice av R.length cv).ownBlock=some g→g≠A):=⟨hS1.low,by have:=HS.out.lt;omega,fun g e=>by have:=(HS.out.own.lt g e).2;omega⟩
    have hr3:r≤300:=by
     have:=hpN_len (mvP L M) (hvs hs) i
     have e1:=HR.out.2.1
     rw [HR.out.2.2] at e1
     omega
    rw [←HR.out.1] at HA
    clear HS hbA hA m0 m1 m2 m3 m4 m5 t0 t1 t2 HC zm zt hSd hS1 hr
    go_upto_block 2 with fail
    go_cut [11] (fun s11 wx=>∃k:Nat,s11=.int .i64 (k:Int)∧k≤r∧Found S (P0,P1,P2) k∧Bl wA wx)
    case first =>
     go_wp2
     go_loopg [11] r (fun gk s11 wx=>∃k:Nat,k≤r∧gk=r-k∧s11=.int .i64 (k:Int)∧Past S (P0,P1,P2) k∧Bl wA wx)
     case atStart=>exact ⟨0,by omega,rfl,rfl,fun j hj h=>by omega,Qc _⟩
     case round =>
      obtain ⟨k,hk,rfl,rfl,hpk,hbk⟩:=hrel
      have HK:Hid (Past S (P0,P1,P2) k∧Bl wA wr):=⟨hpk,hbk⟩
      have q5:wr.cell? ⟨B,5,none⟩=some (.slice av r cv):=Qa hbk HS1.out.c5
      have b0:=Qa hbk a0
      have b1:=Qa hbk a1
      have b2:=Qa hbk a2
      have zB:B<wr.heap.size:=bk q5
      have zA:A<wr.heap.size:=bk b0
      clear hpk hbk
      by_cases h2:k<r
      ·have k1:(k:Int)<(r:Int):=by omega
       have k0:(0:Int)≤(k:Int):=by omega
       obtain ⟨gv,hgv⟩:=own_some2 HS1.out.own (by rw [←HR.out.1];omega)
       subst hgv
       obtain ⟨s0,s1,s2,s3⟩:=HS1.out.cells HR.out.1 (HR.out.1 ▸ h2:k<R.length)
       replace s0:=Qa HK.out.2 s0
       replace s1:=Qa HK.out.2 s1
       replace s2:=Qa HK.out.2 s2
       have hkS:k<S.length:=by rw [←HR.out.2.1];exact h2
       have hRS:R[k]'(HR.out.1 ▸ h2)=(S[k].1,(R[k]'(HR.out.1 ▸ h2)).2):=by
        have e:=(HS1.out.hold k (HR.out.1 ▸ h2) (by simpa [trS] using hkS)).1
        simp [trS] at e
        rw [←e]
       rw [hRS] at s0 s1 s2
       obtain ⟨q,hq0⟩:∃q,q=S[k].1:=⟨_,rfl⟩
       rw [←hq0] at s0 s1 s2
       obtain ⟨Q0,Q1,Q2⟩:=q
       dsimp only at s0 s1 s2
       have HQ:Hid ((Q0,Q1,Q2)=S[k].1∧k<S.length):=⟨hq0,hkS⟩
       have zv:gv<wr.heap.size:=bk s0
       clear hq0 hRS s3
       by_cases hl:ltB (Q0,Q1,Q2) (P0,P1,P2)=true
       ·have C58:Hid (∀V:World,Calls Tryz.prog 56 #[.agg #[.int .i64 Q0,.int .i64 Q1,.int .i64 Q2],.agg #[.int .i64 P0,.int .i64 P1,.int .i64 P2]] V fun e w'=>e=.returned (.bool true)∧Bl V w'):=fun V=>by
         have:=lessTri_any Q0 Q1 Q2 P0 P1 P2 V
         rw [hl] at this
         exact this
        have kc:=Kin.cells wr
        have kn:Nonempty (Kin wr):=⟨⟨wr,Qc _⟩⟩
        go_upto_region 8 with fail
        refine Qg (by kernel_rfl) (by kernel_rfl) ?_
        repeat (go_big_quiet_step ((go_at_call 56;exact Qo (C58.out _))))
        refine wpQuiet_nil ?_
        intro wq hw'
        obtain ⟨nq,hw''⟩:=hw'
        have hq:Bl wr wq:=hw'' ▸ nq.h
        clear hw'' nq kc kn
        clear s0 s1 s2 b0 b1 b2 q5
        go_wp2
        go_roundg (r-(k+1))
        case measure=>omega
        case rel=>exact ⟨k+1,by omega,rfl,by go_num,past_next HK.out.1 HQ.out.2 (by rw [←HQ.out.1];exact hl),Qe HK.out.2 hq⟩
       ·have hl2:ltB (Q0,Q1,Q2) (P0,P1,P2)=false:=by simpa using hl
        have C58:Hid (∀V:World,Calls Tryz.prog 56 #[.agg #[.int .i64 Q0,.int .i64 Q1,.int .i64 Q2],.agg #[.int .i64 P0,.int .i64 P1,.int .i64 P2]] V fun e w'=>e=.returned (.bool false)∧Bl V w'):=fun V=>by
         have:=lessTri_any Q0 Q1 Q2 P0 P1 P2 V
         rw [hl2] at this
         exact this
        have kc:=Kin.cells wr
        have kn:Nonempty (Kin wr):=⟨⟨wr,Qc _⟩⟩
        go_upto_region 8 with fail
        refine Qg (by kernel_rfl) (by kernel_rfl) ?_
        repeat (go_big_quiet_step ((go_at_call 56;exact Qo (C58.out _))))
        refine wpQuiet_nil ?_
        intro wq hw'
        obtain ⟨nq,hw''⟩:=hw'
        have hq:Bl wr wq:=hw'' ▸ nq.h
        clear hw'' nq kc kn
        clear s0 s1 s2 b0 b1 b2 q5
        go_wp2
        go_meet
        case rel=>exact ⟨k,rfl,hk,⟨HK.out.1,fun _=>by rw [←HQ.out.1];exact hl2⟩,Qe HK.out.2 hq⟩
      ·have k1:¬(k:Int)<(r:Int):=by omega
       have kc:=Kin.cells wr
       have kn:Nonempty (Kin wr):=⟨⟨wr,Qc _⟩⟩
       go_upto_region 8 with fail
       refine Qg (by kernel_rfl) (by kernel_rfl) ?_
       repeat (go_big_quiet_step (fail))
       refine wpQuiet_nil ?_
       intro wq hw'
       obtain ⟨nq,hw''⟩:=hw'
       have hq:Bl wr wq:=hw'' ▸ nq.h
       clear hw'' nq kc kn
       clear b0 b1 b2 q5
       go_wp2
       go_meet
       case rel=>exact ⟨k,rfl,hk,⟨HK.out.1,fun h=>absurd h (by rw [←HR.out.2.1];exact h2)⟩,Qe HK.out.2 hq⟩
    case rest =>
     obtain ⟨k,rfl,hk,hF,hbk⟩:=hcut
     obtain ⟨wB,hwB⟩:∃x,x=wc:=⟨_,rfl⟩
     subst hwB
     have HK:Hid (Found S (P0,P1,P2) k∧Bl wA wB):=⟨hF,hbk⟩
     have q5:wB.cell? ⟨B,5,none⟩=some (.slice av r cv):=Qa hbk HS1.out.c5
     have b0:=Qa hbk a0
     have b1:=Qa hbk a1
     have b2:=Qa hbk a2
     have zB:B<wB.heap.size:=bk q5
     have zA:A<wB.heap.size:=bk b0
     clear hF hbk a0 a1 a2
     obtain ⟨nb,hnb⟩:∃nb:Bool,nb=decide (¬∃h:k<S.length,S[k].1=(P0,P1,P2)):=⟨_,rfl⟩
     have HNB:Hid (nb=decide (¬∃h:k<S.length,S[k].1=(P0,P1,P2))):=hnb
     clear hnb
     go_upto_region 10 with fail
     go_cut [69] (fun s69 wx=>s69=.bool nb∧Bl wB wx)
     case first =>
      by_cases h2:k<r
      ·have k1:(k:Int)<(r:Int):=by omega
       have k2:decide ((k:Int)=(r:Int))=false:=decide_eq_false (by omega)
       have k3:decide (k=r)=false:=decide_eq_false (by omega)
       have k6:((k:Int) == (r:Int))=false:=by simpa using k2
       have k7:(k == r)=false:=by simpa using k3
       have k0:(0:Int)≤(k:Int):=by omega
       obtain ⟨gv,hgv⟩:=own_some2 HS1.out.own (by rw [←HR.out.1];omega)
       subst hgv
       obtain ⟨s0,s1,s2,s3⟩:=HS1.out.cells HR.out.1 (HR.out.1 ▸ h2:k<R.length)
       replace s0:=Qa HK.out.2 s0
       replace s1:=Qa HK.out.2 s1
       replace s2:=Qa HK.out.2 s2
       have hkS:k<S.length:=by rw [←HR.out.2.1];exact h2
       have hRS:R[k]'(HR.out.1 ▸ h2)=(S[k].1,(R[k]'(HR.out.1 ▸ h2)).2):=by
        have e:=(HS1.out.hold k (HR.out.1 ▸ h2) (by simpa [trS] using hkS)).1
        simp [trS] at e
        rw [←e]
       rw [hRS] at s0 s1 s2
       obtain ⟨q,hq0⟩:∃q,q=S[k].1:=⟨_,rfl⟩
       rw [←hq0] at s0 s1 s2
       obtain ⟨Q0,Q1,Q2⟩:=q
       dsimp only at s0 s1 s2
       have HQ:Hid ((Q0,Q1,Q2)=S[k].1∧k<S.length):=⟨hq0,hkS⟩
       have zv:gv<wB.heap.size:=bk s0
       have hne:=neq85 Q0 Q1 Q2 P0 P1 P2
       have HE:Hid ((!sameT Q0 Q1 Q2 P0 P1 P2)=nb):=by
        have:(!sameT Q0 Q1 Q2 P0 P1 P2)=nb:=by
         rw [HNB.out]
         by_cases e:S[k].1=(P0,P1,P2)
         ·have e2:∃h:k<S.length,S[k].1=(P0,P1,P2):=⟨hkS,e⟩
          rw [decide_eq_false (fun q=>q e2)]
          rw [←hq0] at e
          simp at e
          simp [sameT,e]
         ·have e2:¬∃h:k<S.length,S[k].1=(P0,P1,P2):=fun ⟨_,q⟩=>e q
          rw [decide_eq_true e2]
          rw [←hq0] at e
          simp at e
          simp [sameT]
          exact Classical.byContradiction fun q=>by
           simp only [not_or,Classical.not_not] at q
           exact e q.1 q.2.1 q.2.2
        exact this
       obtain ⟨sb,hsb⟩:∃sb,sb = !sameT Q0 Q1 Q2 P0 P1 P2:=⟨_,rfl⟩
       rw [←hsb] at hne HE
       clear hq0 hRS s3 hsb
       have kc:=Kin.cells wB
       have kn:Nonempty (Kin wB):=⟨⟨wB,Qc _⟩⟩
       refine Qg (by kernel_rfl) (by kernel_rfl) ?_
       repeat (go_big_quiet_step (fail))
       refine wpQuiet_nil ?_
       intro wq hw'
       obtain ⟨nq,hw''⟩:=hw'
       have hq:Bl wB wq:=hw'' ▸ nq.h
       clear hw'' nq kc kn
       clear s0 s1 s2 b0 b1 b2 q5
       go_wp2
       go_meet
       case rel =>
        refine ⟨?_,hq⟩
        rw [←HE.out]
      ·have k1:¬(k:Int)<(r:Int):=by omega
       obtain rfl:k=r:=by omega
       have HE:Hid (nb=true):=by
        have:nb=true:=by
         rw [HNB.out,decide_eq_true_eq]
         rintro ⟨h,_⟩
         rw [←HR.out.2.1] at h
         exact h2 h
        exact this
       have kc:=Kin.cells wB
       have kn:Nonempty (Kin wB):=⟨⟨wB,Qc _⟩⟩
       refine Qg (by kernel_rfl) (by kernel_rfl) ?_
       repeat (go_big_quiet_step (fail))
       refine wpQuiet_nil ?_
       intro wq hw'
       obtain ⟨nq,hw''⟩:=hw'
       have hq:Bl wB wq:=hw'' ▸ nq.h
       clear hw'' nq kc kn
       clear b0 b1 b2 q5
       go_wp2
       go_meet
       case rel =>
        refine ⟨?_,hq⟩
        rw [HE.out]
     case rest =>
      obtain ⟨rfl,hbc⟩:=hcut
      obtain ⟨wC,hwC⟩:∃x,x=wc:=⟨_,rfl⟩
      subst hwC
      have HS2:Hid (HSt w4 wC B (.int .i64 (W:Int)) (.int .i64 (H:Int)) (.slice a' m ca') (.slice b' n cb') (.slice (some ⟨g',0,none⟩) nn c') (.slice av r cv) R (trS L S)):=HS1.out.kept (Qe HK.out.2 hbc)
      have q5:wC.cell? ⟨B,5,none⟩=some (.slice av r cv):=HS2.out.c5
      have f5:wC.frozen? ⟨B,5,none⟩=false:=HS2.out.f5
      replace b0:=Qa hbc b0
      replace b1:=Qa hbc b1
      replace b2:=Qa hbc b2
      replace zB:B<wC.heap.size:=bk q5
      replace zA:A<wC.heap.size:=bk b0
      have HF:Hid (Found S (P0,P1,P2) k):=HK.out.1
      clear HK HS1 hbc
      go_upto_if 69 with fail
      go_cut [11] (fun s11 wx=>s11=.int .i64 (k:Int)∧∃v' R',HSt w4 wx B (.int .i64 (W:Int)) (.int .i64 (H:Int)) (.slice a' m ca') (.slice b' n cb') (.slice (some ⟨g',0,none⟩) nn c') v' R' (trS L (withP S (P0,P1,P2) k))∧CapsOk R')
      case first =>
       cases nb
       ·have HE:Hid (withP S (P0,P1,P2) k=S):=by
         have:withP S (P0,P1,P2) k=S:=by
          have e:=HNB.out
          unfold withP
          rw [←e]
          rfl
         exact this
        go_wp2
        go_meet
        case rel=>exact ⟨rfl,_,_,by rw [HE.out];exact HS2.out,HCP.out⟩
       ·have HE:Hid (withP S (P0,P1,P2) k=S.take k++((P0,P1,P2),[]) :: S.drop k):=by
         have:withP S (P0,P1,P2) k=S.take k++((P0,P1,P2),[]) :: S.drop k:=by
          have e:=HNB.out
          unfold withP
          rw [←e]
          rfl
         exact this
        clear HNB
        have HNV:Hid (∀b,b<B+1→some b≠(Value.slice av r cv).ownBlock):=fun b hb e=>by have:=(HS2.out.own.lt b e.symm).1;omega
        go_wp2_with (at_builtin;refine wpList_append_lies _ rfl (.tmp 71) (.tmp 73) 27 rfl (B+1) 102 i98 (.agg #[.int .i64 0,.int .i64 0,.int .i64 0,.slice none 0 0]) 4 48 Tryz.underlying27 HI98.out.1 HI98.out.2.1 HI98.out.2.2.1 HI98.out.2.2.2 rfl (by decide) (.slice av r cv) r (rowS R) rfl (Qs (HR.out.1 ▸ HS2.out.own) (Qb (Qc _))) ⟨wC.heap.size,0,none⟩ 1 1 [.int .i64 0,.int .i64 0,.int .i64 0,.slice none 0 0] rfl rfl (cell_fourH _ _ _ _ _ _) (four_oneH _ _ _ _ _ _) (by decide) (by unfold maxLen;omega) (by omega) (by simp;omega) (wC.heap.size+1) (by simp) ?grow)
        case grow =>
         intro gq cap W3 hown3 hgrow hat hlt
         have hS4:=(HS2.out.kept (Qb (Qc _))).more (v':=.slice (some ⟨gq,0,none⟩) (r+1) cap) hgrow (by rw [←HR.out.1];exact hown3) (hat.imp (fun e=>e.symm) (fun e=>by rw [e];simp [Value.ownBlock]))
         have hgA:gq≠A:=by
          rcases hat with e|e
          ·exact HA.out.2.2 _ e
          ·omega
         have hgB:gq≠B:=by
          have:=(hown3.lt gq rfl).1
          omega
         have hnA:some A≠(Value.slice av r cv).ownBlock:=fun e=>HA.out.2.2 A e.symm rfl
         have q6:W3.cell? ⟨B,5,none⟩=some (.slice av r cv):=hgrow.cell (Qh q5) (HNV.out B (by omega))
         have zB2:B<(wC.alloc (.cells #[.int .i64 0,.int .i64 0,.int .i64 0,.slice none 0 0] 102)).heap.size:=by rw [World.size_alloc];omega
         have f6:W3.frozen? ⟨B,5,none⟩=false:=(World.frozen?_of_block (a:=⟨B,5,none⟩) (hgrow.block B zB2 (HNV.out B (by omega)))).trans ((Below.frozen (Qb (Qc wC)) zB).trans f5)
         have c0:W3.cell? ⟨A,0,none⟩=some (.int .i64 P0):=hgrow.cell (Qh b0) hnA
         have c1:W3.cell? ⟨A,1,none⟩=some (.int .i64 P1):=hgrow.cell (Qh b1) hnA
         have c2:W3.cell? ⟨A,2,none⟩=some (.int .i64 P2):=hgrow.cell (Qh b2) hnA
         have HG:Hid (gq≠A∧gq≠B∧A≠B):=⟨hgA,hgB,by have:=HA.out.2.1;omega⟩
         have zW:B<W3.heap.size:=bk q6
         clear hown3 hgrow hat hlt hgA hgB hnA q5 f5 b0 b1 b2
         go_upto_region 12 with fail
         refine Qr (fun W5 hW5=>?_)
         have HS5:Hid (ShiftS w4 W5 B r (.slice (some ⟨gq,0,none⟩) (r+1) cap) R (trS L S) A P0 P1 P2 (.int .i64 (W:Int)) (.int .i64 (H:Int)) (.slice a' m ca') (.slice b' n cb') (.slice (some ⟨g',0,none⟩) nn c') r):=by
          have hW5':=hW5
          subst hW5'
          refine ⟨((0,0,0),.slice none 0 0),((0,0,0),[]),?_,Qj c0 (by have:=HG.out.2.2;exact this),Qj c1 (by have:=HG.out.2.2;exact this),Qj c2 (by have:=HG.out.2.2;exact this)⟩
          have e1:=shift_start R ((0,0,0),Value.slice none 0 0)
          have e2:=shift_start (trS L S) ((0,0,0),[])
          rw [←HR.out.1] at e1
          have e3:(trS L S).length=r:=by rw [HR.out.2.1];simp [trS]
          rw [e3] at e2
          rw [←e1,←e2]
          exact hS4
         clear hW5 hS4 q6 f6 c0 c1 c2 zW HS2
         have q7:W5.cell? ⟨B,5,none⟩=some (.slice (some ⟨gq,0,none⟩) (r+1) cap):=by
          obtain ⟨_,_,h,_⟩:=HS5.out
          exact h.c5
         go_wp2
         go_loopg [12] (r-k) (fun gk s12 wx=>∃j:Nat,k≤j∧j≤r∧gk=j-k∧s12=.int .i64 (j:Int)∧ShiftS w4 wx B r (.slice (some ⟨gq,0,none⟩) (r+1) cap) R (trS L S) A P0 P1 P2 (.int .i64 (W:Int)) (.int .i64 (H:Int)) (.slice a' m ca') (.slice b' n cb') (.slice (some ⟨g',0,none⟩) nn c') j)
         case atStart=>exact ⟨r,hk,Nat.le_refl _,rfl,by go_num,HS5.out⟩
         case round =>
          clear HS5 q7
          obtain ⟨j,hkj,hjr,rfl,rfl,y,z,hX,e0,e1,e2⟩:=hrel
          have q7:wr.cell? ⟨B,5,none⟩=some (.slice (some ⟨gq,0,none⟩) (r+1) cap):=hX.c5
          have zB3:B<wr.heap.size:=bk q7
          have zA3:A<wr.heap.size:=bk e0
          have hRl:R.length=r:=HR.out.1.symm
          have hTl:(trS L S).length=r:=by rw [HR.out.2.1];simp [trS]
          by_cases hj:k<j
          ·obtain ⟨j',rfl⟩:∃j',j=j'+1:=⟨j - 1,by omega⟩
           have hrl:r+1=(R.take (j'+1)++y :: R.drop (j'+1)).length:=by simp;omega
           have htl:r+1=((trS L S).take (j'+1)++z :: (trS L S).drop (j'+1)).length:=by simp;omega
           have hjR:j'+1≤R.length:=by omega
           have hjT:j'+1≤(trS L S).length:=by omega
           have eR:(R.take (j'+1)++y :: R.drop (j'+1))[j']'(by omega)=R[j']:=by
            have:=shift_before R y j' hjR
            rw [List.getElem?_eq_getElem (by omega)] at this
            exact Option.some.inj this
           have eT:((trS L S).take (j'+1)++z :: (trS L S).drop (j'+1))[j']'(by omega)=(trS L S)[j']:=by
            have:=shift_before (trS L S) z j' hjT
            rw [List.getElem?_eq_getElem (by omega)] at this
            exact Option.some.inj this
           obtain ⟨s0,s1,s2,s3⟩:=hX.cells hrl (k:=j') (by omega)
           obtain ⟨d0,d1,d2,d3⟩:=hX.cells hrl (k:=j'+1) (by omega)
           have eY:(R.take (j'+1)++y :: R.drop (j'+1))[j'+1]'(by omega)=y:=by
            rw [List.getElem_append_right (by simp;omega)]
            simp [Nat.min_eq_left hjR]
           rw [eY] at d0 d1 d2 d3
           have hho:=hX.hold j' (by omega) (by omega)
           have hap:=hX.apart _ (List.getElem_mem (l:=R.take (j'+1)++y :: R.drop (j'+1)) (n:=j') (by omega))
           rw [eR] at s0 s1 s2 s3 hho hap
           rw [eT] at hho
           have hst:=shift_step R y j' hjR
           have htt:=shift_step (trS L S) z j' hjT
           obtain ⟨x,hx⟩:∃x,x=R[j']:=⟨_,rfl⟩
           rw [←hx] at s0 s1 s2 s3 hho hap hst
           obtain ⟨⟨X0,X1,X2⟩,u⟩:=x
           dsimp only at s0 s1 s2 s3 hho hap
           obtain ⟨hxt,ua,uc,rfl,hTr⟩:=hho
           obtain ⟨ul,hul⟩:∃ul,ul=((trS L S)[j']).2.length:=⟨_,rfl⟩
           rw [←hul] at s3 hst hap
           have HP:Hid (ShiftS w4 ((((wr.drew.setCell ⟨gq,(j'+1)*4,none⟩ (.int .i64 X0)).setCell ⟨gq,(j'+1)*4+1,none⟩ (.int .i64 X1)).setCell ⟨gq,(j'+1)*4+2,none⟩ (.int .i64 X2)).setCell ⟨gq,(j'+1)*4+3,none⟩ (.slice ua ul uc)) B r (.slice (some ⟨gq,0,none⟩) (r+1) cap) R (trS L S) A P0 P1 P2 (.int .i64 (W:Int)) (.int .i64 (H:Int)) (.slice a' m ca') (.slice b' n cb') (.slice (some ⟨g',0,none⟩) nn c') j'):=by
            have hp:=(hX.kept (Qf (Qc _))).put4 hrl (i:=j'+1) (by omega) (X0,X1,X2) (.slice ua ul uc) ((trS L S)[j']).2 (fun g e=>⟨(hap g e).1,(hap g e).2.1,fun e9=>(hap g e).2.2 (by rw [e9];rfl)⟩) (by rw [hul];exact ⟨ua,uc,rfl,hTr.kept (Qf (Qc _))⟩)
            rw [hst] at hp
            have htp:((X0,X1,X2),((trS L S)[j']).2)=(trS L S)[j']:=by rw [hxt]
            rw [htp,htt] at hp
            have na:A≠gq:=fun e9=>HG.out.1 e9.symm
            exact ⟨_,_,hp,Qj (Qj (Qj (Qj e0 na) na) na) na,Qj (Qj (Qj (Qj e1 na) na) na) na,Qj (Qj (Qj (Qj e2 na) na) na) na⟩
           have g0:=hX.own
           rw [←hrl] at g0
           have k0:=g0.frozenAt ((j'+1)*4)
           have k1:=g0.frozenAt ((j'+1)*4+1)
           have k2:=g0.frozenAt ((j'+1)*4+2)
           have k3:=g0.frozenAt ((j'+1)*4+3)
           have zq:gq<wr.heap.size:=bk s0
           have jk:(k:Int)<(j':Int)+1:=by omega
           have jr:(j':Int)+1<(r:Int)+1:=by omega
           have jr2:(j':Int)<(r:Int)+1:=by omega
           have j0:(0:Int)≤(j':Int):=by omega
           have j1:(0:Int)≤(j':Int)+1:=by omega
           have jm:(j':Int)≤300:=by omega
           have hgb:gq≠B:=HG.out.2.1
           have jw1:IntKind.i64.wrap ((j':Int)+1 - 1)=(j':Int):=by
            have e9:(j':Int)+1 - 1=(j':Int):=by omega
            rw [e9]
            exact wrap_small (by omega)
           have jw2:IntKind.i64.wrap (((j'+1:Nat):Int) - 1)=(j':Int):=by
            have e9:((j'+1:Nat):Int) - 1=(j':Int):=by omega
            rw [e9]
            exact wrap_small (by omega)
           have jw3:IntKind.i64.wrap (j':Int)=(j':Int):=wrap_small (by omega)
           have jc1:((j'+1:Nat):Int)<((r+1:Nat):Int):=by omega
           have jc2:(j':Int)<((r+1:Nat):Int):=by omega
           have jc3:(0:Int)≤((j'+1:Nat):Int):=by omega
           clear hxt hTr hul hx hst htt hap hX g0 eR eT eY hrl htl e0 e1 e2
           obtain ⟨⟨Y0,Y1,Y2⟩,yv⟩:=y
           dsimp only at d0 d1 d2 d3
           go_upto_region 15 with fail
           go_region_held3 (fun w'=>w'.cell? ⟨B,5,none⟩=some (.slice (some ⟨gq,0,none⟩) (r+1) cap)∧w'.cell? ⟨gq,j'*4,none⟩=some (.int .i64 X0)∧w'.cell? ⟨gq,j'*4+1,none⟩=some (.int .i64 X1)∧w'.cell? ⟨gq,j'*4+2,none⟩=some (.int .i64 X2)∧w'.cell? ⟨gq,j'*4+3,none⟩=some (.slice ua ul uc))
            ((refine ⟨?_,?_,?_,?_,?_⟩<;>(with_reducible repeat (first|assumption|refine Qi ?_|refine Qp ?_ (by omega)|refine Qj ?_ (by dsimp only;omega)))))
            (fail)
           all_goals
            go_wp2
            go_roundg (j'-k)
            case measure=>omega
            case rel=>exact ⟨j',by omega,by omega,rfl,by go_num,HP.out⟩
          ·obtain rfl:k=j:=by omega
           have hrl:r+1=(R.take k++y :: R.drop k).length:=by simp;omega
           have htl:r+1=((trS L S).take k++z :: (trS L S).drop k).length:=by simp;omega
           obtain ⟨d0,d1,d2,d3⟩:=hX.cells hrl (k:=k) (by omega)
           have eY:(R.take k++y :: R.drop k)[k]'(by omega)=y:=by
            rw [List.getElem_append_right (by simp;omega)]
            simp [Nat.min_eq_left (by omega:k≤R.length)]
           rw [eY] at d0 d1 d2 d3
           have HP:Hid (HSt w4 ((((wr.setCell ⟨gq,k*4,none⟩ (.int .i64 P0)).setCell ⟨gq,k*4+1,none⟩ (.int .i64 P1)).setCell ⟨gq,k*4+2,none⟩ (.int .i64 P2)).setCell ⟨gq,k*4+3,none⟩ (.slice none 0 0)) B (.int .i64 (W:Int)) (.int .i64 (H:Int)) (.slice a' m ca') (.slice b' n cb') (.slice (some ⟨g',0,none⟩) nn c') (.slice (some ⟨gq,0,none⟩) (r+1) cap) (R.take k++((P0,P1,P2),.slice none 0 0) :: R.drop k) (trS L (withP S (P0,P1,P2) k))):=by
            have hp:=hX.put4 hrl (i:=k) (by omega) (P0,P1,P2) (.slice none 0 0) [] (fun g e=>by simp [Value.ownBlock] at e) ⟨none,0,rfl,fun i hi=>by simp at hi⟩
            rw [shift_put R ((P0,P1,P2),.slice none 0 0) y k (by omega),shift_put (trS L S) ((P0,P1,P2),[]) z k (by omega)] at hp
            have ew:trS L (withP S (P0,P1,P2) k)=(trS L S).take k++((P0,P1,P2),[]) :: (trS L S).drop k:=by
             rw [HE.out]
             simp [trS]
            rw [ew]
            exact hp
           have g0:=hX.own
           rw [←hrl] at g0
           have k0:=g0.frozenAt (k*4)
           have k1:=g0.frozenAt (k*4+1)
           have k2:=g0.frozenAt (k*4+2)
           have k3:=g0.frozenAt (k*4+3)
           have jk:¬(k:Int)<(k:Int):=by omega
           have jr:(k:Int)<(r:Int)+1:=by omega
           have jc:(k:Int)<((r+1:Nat):Int):=by omega
           have j0:(0:Int)≤(k:Int):=by omega
           clear hX g0 eY hrl htl
           obtain ⟨⟨Y0,Y1,Y2⟩,yv⟩:=y
           dsimp only at d0 d1 d2 d3
           go_wp2
           go_meet
           case rel=>exact ⟨rfl,_,_,HP.out,caps_put HCP.out _ k⟩
      case rest =>
       obtain ⟨rfl,v1,R1,hS3,hc1⟩:=hcut
       obtain ⟨wD,hwD⟩:∃x,x=wc:=⟨_,rfl⟩
       subst hwD
       clear HS2 q5 f5 b0 b1 b2 zB zA HNB HA
       obtain ⟨hk1,hP1,hin,hins,hle⟩:=withP_at (hvs hs) i HF.out (by rw [←HR.out.2.1];exact hk)
       obtain ⟨S1,hS1⟩:∃S1,S1=withP S (P0,P1,P2) k:=⟨_,rfl⟩
       simp only [←hS1] at hk1 hP1 hin hins hle hS3
       have hkl:k<R1.length:=by rw [hS3.len];simpa [trS] using hk1
       have hRS:R1.length=S1.length:=by rw [hS3.len];simp [trS]
       obtain ⟨gv,cv1,rfl⟩:=own_sliceW hS3.own (by omega)
       obtain ⟨s0,s1,s2,s3⟩:=hS3.cells rfl hkl
       obtain ⟨hx1,ua,uc,hx2,hTr⟩:=hS3.hold k hkl (by simpa [trS] using hk1)
       have hl2:(trS L S1)[k]'(by simpa [trS] using hk1)=(S1[k].1,S1[k].2.map (tg L)):=by simp [trS]
       rw [hl2] at hx1 hx2 hTr
       obtain ⟨l,hl⟩:∃l,l=S1[k].2:=⟨_,rfl⟩
       simp only [←hl] at hx2 hTr hin hins hle
       have hll:(l.map (tg L)).length=l.length:=by simp
       rw [hll] at hx2
       rw [hx2] at s3
       have hlt:∀j∈l,j<i:=fun j hj=>by
        obtain ⟨s,h1',h2'⟩:=hin j hj
        rw [HR.out.2.2] at h1'
        exact hpN_lt _ _ i s h1' j h2'
       have hap:=hS3.apart _ (List.getElem_mem hkl)
       rw [hx2] at hap
       obtain ⟨ul,hul⟩:∃ul,ul=l.length:=⟨_,rfl⟩
       obtain ⟨r1,hr1⟩:∃r1,r1=R1.length:=⟨_,rfl⟩
       rw [←hul] at s3 hap
       rw [←hr1] at hS3
       have HS3:Hid (HSt w4 wD B (.int .i64 (W:Int)) (.int .i64 (H:Int)) (.slice a' m ca') (.slice b' n cb') (.slice (some ⟨g',0,none⟩) nn c') (.slice (some ⟨gv,0,none⟩) r1 cv1) R1 (trS L S1)):=hS3
       have HL1:Hid (r1=R1.length∧k<R1.length∧ul=l.length∧TRow wD ua (l.map (tg L))∧(∀j∈l,j<i)∧insS (hvs hs) i (P0,P1,P2) S=S1.set k ((P0,P1,P2),insN (hvs hs) i l)):=⟨hr1,hkl,hul,hTr,hlt,hins⟩
       have HL2:Hid (R1[k].1=(P0,P1,P2)∧∀g,(Value.slice ua ul uc).ownBlock=some g→B<g∧g<wD.heap.size∧(Value.slice (some ⟨gv,0,none⟩) R1.length cv1).ownBlock≠some g):=⟨hx1.trans hP1,hap⟩
       have huc:ul≤uc:=hc1 _ (List.getElem_mem hkl) ua ul uc (by rw [hx2,hul])
       have HC1:Hid (CapsOk R1):=hc1
       clear hc1
       have q5:wD.cell? ⟨B,5,none⟩=some (.slice (some ⟨gv,0,none⟩) r1 cv1):=hS3.c5
       have kr:(k:Int)<(r1:Int):=by omega
       have k0:(0:Int)≤(k:Int):=by omega
       have hul3:ul≤300:=by
        rcases hle with e|⟨s,h1',h2'⟩
        ·rw [hul,e]
         simp
        ·rw [HR.out.2.2] at h1'
         have:=hpN_lens _ _ i s h1'
         rw [hul,h2']
         omega
       clear hk1 hP1 hin hins hle hS3 hx1 hx2 hTr hl2 hl hll hlt hap hul hr1 s0 s1 s2 hS1 hRS
       go_upto_block 6 with fail
       go_cut [14] (fun s14 wx=>∃p:Nat,s14=.int .i64 (p:Int)∧p≤ul∧Spot (hvs hs) i l p∧Bl wD wx)
       case first =>
        go_wp2
        go_loopg [14] ul (fun gk s14 wx=>∃p:Nat,p≤ul∧gk=ul-p∧s14=.int .i64 (p:Int)∧LowN (hvs hs) i l p∧Bl wD wx)
        case atStart=>exact ⟨0,by omega,rfl,rfl,fun j hj h=>by omega,Qc _⟩
        case round =>
         obtain ⟨p,hp,rfl,rfl,hlo,hbp⟩:=hrel
         have HLO:Hid (LowN (hvs hs) i l p∧Bl wD wr):=⟨hlo,hbp⟩
         clear hlo hbp q5 s3
         by_cases h2:p<ul
         ·have p1:(p:Int)<(ul:Int):=by omega
          have p0:(0:Int)≤(p:Int):=by omega
          have hpl:p<l.length:=by rw [←HL1.out.2.2.1];exact h2
          obtain ⟨gu,eu,t0,t1,t2⟩:=(HL1.out.2.2.2.1.kept HLO.out.2) p (by simpa using hpl)
          subst eu
          have hmp:(l.map (tg L))[p]'(by simpa using hpl)=tg L l[p]:=by simp
          rw [hmp] at t0 t1 t2
          obtain ⟨nm,hnm⟩:∃nm,nm=l[p]:=⟨_,rfl⟩
          rw [←hnm] at t0 t1 t2
          have hni:nm<i:=by rw [hnm];exact HL1.out.2.2.2.2.1 _ (List.getElem_mem hpl)
          have hnL:nm<L.length:=by rw [←HD.out.1];omega
          have hpc:plc L (tg L nm)=(nm:Int):=plc_at hnL (by unfold tg;rw [List.getD_eq_getElem?_getD,List.getElem?_eq_getElem hnL];rfl) (fun j hj hjn e9=>by
           have e8:tg L nm=L[nm]:=by unfold tg;rw [List.getD_eq_getElem?_getD,List.getElem?_eq_getElem hnL];rfl
           rw [e8] at e9
           have:=nodup_atH HD.out.2.2.2.2.2.1 hj hnL e9
           omega)
          have hbw:Bl w4 wr:=Qe HS3.out.bel HLO.out.2
          obtain ⟨ti,hti⟩:∃ti,ti=tg L nm:=⟨_,rfl⟩
          rw [←hti] at t0 t1 t2 hpc
          obtain ⟨U0,U1,U2⟩:=ti
          dsimp only at t0 t1 t2
          have C37:Hid (∀V:World,Bl wr V→Calls Tryz.prog 41 #[.slice (some ⟨g7,0,none⟩) nn c7,.agg #[.int .i64 U0,.int .i64 U1,.int .i64 U2]] V fun e w'=>e=.returned (.int .i64 (nm:Int))∧Bl V w'):=fun V hV=>by
           have:=Ja (some ⟨g7,0,none⟩) c7 L U0 U1 U2 V (HL4.out.1.kept (Qe hbw hV)) (by rw [←HD.out.1];exact hlen)
           rw [hpc,←HD.out.1] at this
           exact this
          have hn1:=J0 (HL4.out.2.2.2.1.kept hbw) (i:=nm) (by rw [HD.out.2.2.2.2.1];omega)
          have hi1:=J0 (HL4.out.2.2.2.1.kept hbw) (i:=i) (by rw [HD.out.2.2.2.2.1];omega)
          obtain ⟨hN,hhN⟩:∃x,x=hs.getD nm 0:=⟨_,rfl⟩
          obtain ⟨hI,hhI⟩:∃x,x=hs.getD i 0:=⟨_,rfl⟩
          rw [←hhN] at hn1
          rw [←hhI] at hi1
          have HH:Hid (hN=hvs hs l[p]∧hI=hvs hs i):=⟨by rw [hhN,hnm];rfl,hhI⟩
          have zu:gu<wr.heap.size:=bk t0
          have zh:gh<wr.heap.size:=bk hn1
          have n1:(nm:Int)<(nn:Int):=by omega
          have n0:(0:Int)≤(nm:Int):=by omega
          clear hnm hpc hti hbw hhN hhI hmp hnL
          by_cases hl:hN<hI
          ·have hd:decide (hN<hI)=true:=decide_eq_true hl
           have kc:=Kin.cells wr
           have kn:Nonempty (Kin wr):=⟨⟨wr,Qc _⟩⟩
           go_upto_region 19 with fail
           refine Qg (by kernel_rfl) (by kernel_rfl) ?_
           repeat (go_big_quiet_step ((go_at_call 41;exact Qo (C37.out _ (Kin.h _)))))
           refine wpQuiet_nil ?_
           intro wq hw'
           obtain ⟨nq,hw''⟩:=hw'
           have hq:Bl wr wq:=hw'' ▸ nq.h
           clear hw'' nq kc kn
           clear t0 t1 t2 hn1 hi1
           go_wp2
           go_roundg (ul-(p+1))
           case measure=>omega
           case rel=>exact ⟨p+1,by omega,rfl,by go_num,lowN_next HLO.out.1 hpl (by rw [←HH.out.1,←HH.out.2];exact hl),Qe HLO.out.2 hq⟩
          ·have hd:decide (hN<hI)=false:=decide_eq_false hl
           have kc:=Kin.cells wr
           have kn:Nonempty (Kin wr):=⟨⟨wr,Qc _⟩⟩
           go_upto_region 19 with fail
           refine Qg (by kernel_rfl) (by kernel_rfl) ?_
           repeat (go_big_quiet_step ((go_at_call 41;exact Qo (C37.out _ (Kin.h _)))))
           refine wpQuiet_nil ?_
           intro wq hw'
           obtain ⟨nq,hw''⟩:=hw'
           have hq:Bl wr wq:=hw'' ▸ nq.h
           clear hw'' nq kc kn
           clear t0 t1 t2 hn1 hi1
           go_wp2
           go_meet
           case rel=>exact ⟨p,rfl,hp,⟨HLO.out.1,fun _=>by rw [←HH.out.1,←HH.out.2];omega⟩,Qe HLO.out.2 hq⟩
         ·have p1:¬(p:Int)<(ul:Int):=by omega
          have kc:=Kin.cells wr
          have kn:Nonempty (Kin wr):=⟨⟨wr,Qc _⟩⟩
          go_upto_region 19 with fail
          refine Qg (by kernel_rfl) (by kernel_rfl) ?_
          repeat (go_big_quiet_step (fail))
          refine wpQuiet_nil ?_
          intro wq hw'
          obtain ⟨nq,hw''⟩:=hw'
          have hq:Bl wr wq:=hw'' ▸ nq.h
          clear hw'' nq kc kn
          go_wp2
          go_meet
          case rel=>exact ⟨p,rfl,hp,⟨HLO.out.1,fun h=>absurd h (by rw [←HL1.out.2.2.1];exact h2)⟩,Qe HLO.out.2 hq⟩
       case rest =>
        obtain ⟨p,rfl,hp,hsp,hbp⟩:=hcut
        obtain ⟨wE,hwE⟩:∃x,x=wc:=⟨_,rfl⟩
        subst hwE
        have HS5:Hid (HSt w4 wE B (.int .i64 (W:Int)) (.int .i64 (H:Int)) (.slice a' m ca') (.slice b' n cb') (.slice (some ⟨g',0,none⟩) nn c') (.slice (some ⟨gv,0,none⟩) r1 cv1) R1 (trS L S1)):=HS3.out.kept hbp
        have HT5:Hid (TRow wE ua (l.map (tg L))∧Spot (hvs hs) i l p∧Bl wD wE):=⟨HL1.out.2.2.2.1.kept hbp,hsp,hbp⟩
        clear hsp hbp q5 s3
        have hp':=hp
        have p0:(0:Int)≤(p:Int):=by omega
        have pu:(p:Int)≤(ul:Int):=by omega
        have pc:(p:Int)≤(uc:Int):=by omega
        have uu:(ul:Int)≤(uc:Int):=by omega
        go_upto_region 22 with fail
        go_cut [15] (fun s15 wx=>∃v6:Value,v6=s15∧wx.ownsRow wE.heap.size 56 3 v6 p (flatV ((l.map (tg L)).take p))∧Bl wE wx)
        case first =>
         by_cases hu0:0<ul
         ·obtain ⟨gu,eu,_⟩:=HT5.out.1 0 (by rw [List.length_map,←HL1.out.2.2.1];exact hu0)
          subst eu
          by_cases hp0:0<p
          ·go_wp2_with (at_builtin;refine wpList_append_grows _ rfl (.tmp 129) (.tmp 132) 57 rfl 56 i85 (.agg #[.int .i64 0,.int .i64 0,.int .i64 0]) 3 24 Tryz.underlying57 HI85.out.1 HI85.out.2.1 HI85.out.2.2.1 HI85.out.2.2.2 rfl (by decide) none 0 0 [] rfl (fun _=>⟨rfl,rfl⟩) rfl (by intro _ h;simp at h) ⟨gu,0,none⟩ p uc (flatV ((l.map (tg L)).take p)) rfl (by rw [Jx,List.length_take,List.length_map,←HL1.out.2.2.1,Nat.min_eq_left hp]) (fun j u hu=>by rw [addr_add,Nat.zero_add];exact trow_take HT5.out.1 p j u hu) (flatV_one _) (by omega) (by unfold maxLen;omega) (by omega) ?_;intro v' w6 hown hgrow;rw [Nat.zero_add,List.nil_append] at hown;have HB6:Hid (w6.ownsRow wE.heap.size 56 3 v' p (flatV ((l.map (tg L)).take p))∧Bl wE w6):=⟨hown,(Below.refl _ _).grown hgrow (Nat.le_refl _) (fun k h=>by cases h)⟩;clear hown hgrow)
           go_meet
           case rel=>exact ⟨_,rfl,HB6.out.1,HB6.out.2⟩
          ·obtain rfl:p=0:=by omega
           go_wp2
           go_meet
           case rel=>exact ⟨_,rfl,⟨by simp [flatV],Or.inl ⟨rfl,rfl⟩⟩,by with_reducible repeat (first|exact Qc _|refine Qf ?_)⟩
         ·obtain rfl:ul=0:=by omega
          obtain rfl:p=0:=by omega
          have hua:ua=none∨∃x,ua=some x:=by cases ua<;>simp
          rcases hua with rfl|⟨x,rfl⟩
          ·go_wp2
           go_meet
           case rel=>exact ⟨_,rfl,⟨by simp [flatV],Or.inl ⟨rfl,rfl⟩⟩,by with_reducible repeat (first|exact Qc _|refine Qf ?_)⟩
          ·go_wp2
           go_meet
           case rel=>exact ⟨_,rfl,⟨by simp [flatV],Or.inl ⟨rfl,rfl⟩⟩,by with_reducible repeat (first|exact Qc _|refine Qf ?_)⟩
        case rest =>
         obtain ⟨v6,rfl,hO6,hb6⟩:=hcut
         obtain ⟨wF,hwF⟩:∃x,x=wc:=⟨_,rfl⟩
         subst hwF
         have HO6:Hid (wF.ownsRow wE.heap.size 56 3 v6 p (flatV ((l.map (tg L)).take p))∧Bl wE wF):=⟨hO6,hb6⟩
         have hzF:=hb6.size
         have hbF:Bl w4 wF:=Qe HS5.out.bel hb6
         obtain ⟨g9,e9,t0,t1,t2⟩:=(HL4.out.1.kept hbF) i (by rw [←HD.out.1];exact h1)
         cases e9
         have hti:L[i]'(by rw [←HD.out.1];exact h1)=(T0,T1,T2):=by rw [HPI.out.2];unfold tg;rw [List.getD_eq_getElem?_getD,List.getElem?_eq_getElem (by rw [←HD.out.1];exact h1)];rfl
         rw [hti] at t0 t1 t2
         dsimp only at t0 t1 t2
         have zt:g7<wF.heap.size:=bk t0
         clear hO6 hb6 hbF hti
         go_upto_region 23 with fail
         go_cut [15] (fun s15 wx=>∃g8 c8:Nat,s15=.slice (some ⟨g8,0,none⟩) (p+1) c8∧wx.ownsRow wE.heap.size 56 3 (.slice (some ⟨g8,0,none⟩) (p+1) c8) (p+1) (flatV ((l.map (tg L)).take p++[(T0,T1,T2)]))∧Bl wE wx)
         case first =>
          go_wp2_with (at_builtin;refine wpList_append_lies _ rfl (.tmp 134) (.tmp 139) 57 rfl wE.heap.size 56 i85 (.agg #[.int .i64 0,.int .i64 0,.int .i64 0]) 3 24 Tryz.underlying57 HI85.out.1 HI85.out.2.1 HI85.out.2.2.1 HI85.out.2.2.2 rfl (by decide) v6 p (flatV ((l.map (tg L)).take p)) rfl (Qs HO6.out.1 (Qb (Qc _))) ⟨wF.heap.size,0,none⟩ 1 1 [.int .i64 T0,.int .i64 T1,.int .i64 T2] rfl rfl (Q9 _ _ _ _) (flatV_one [(T0,T1,T2)]) (by decide) (by unfold maxLen;omega) (by omega) (by simp;omega) (wF.heap.size+1) (by simp) ?grow)
          case grow =>
           intro g8 c8 w8 hown8 hgrow8 hat8 hlt8
           have HO8:Hid (w8.ownsRow wE.heap.size 56 3 (.slice (some ⟨g8,0,none⟩) (p+1) c8) (p+1) (flatV ((l.map (tg L)).take p++[(T0,T1,T2)]))∧Bl wE w8):=by
            refine ⟨by rw [Jq];exact hown8,?_⟩
            have hbb:Bl wE (wF.alloc (.cells #[.int .i64 T0,.int .i64 T1,.int .i64 T2] 56)):=Qe HO6.out.2 (Qb (Qc _))
            exact hbb.grown hgrow8 hbb.size (fun q e=>(HO6.out.1.lt q e).1)
           clear hown8 hgrow8 hat8 hlt8
           go_wp2
           go_meet
           case rel=>exact ⟨g8,c8,rfl,HO8.out.1,HO8.out.2⟩
         case rest =>
          obtain ⟨g8,c8,rfl,hO8,hb8⟩:=hcut
          obtain ⟨wG,hwG⟩:∃x,x=wc:=⟨_,rfl⟩
          subst hwG
          have HO8:Hid (wG.ownsRow wE.heap.size 56 3 (.slice (some ⟨g8,0,none⟩) (p+1) c8) (p+1) (flatV ((l.map (tg L)).take p++[(T0,T1,T2)]))∧Bl wE wG):=⟨hO8,hb8⟩
          have HS6:Hid (HSt w4 wG B (.int .i64 (W:Int)) (.int .i64 (H:Int)) (.slice a' m ca') (.slice b' n cb') (.slice (some ⟨g',0,none⟩) nn c') (.slice (some ⟨gv,0,none⟩) r1 cv1) R1 (trS L S1)):=HS5.out.kept hb8
          have HTG:Hid (TRow wG ua (l.map (tg L))):=HT5.out.1.kept hb8
          have hzG:=hb8.size
          have q5:wG.cell? ⟨B,5,none⟩=some (.slice (some ⟨gv,0,none⟩) r1 cv1):=HS6.out.c5
          obtain ⟨_,_,_,s3⟩:=HS6.out.cells HL1.out.1 hkl
          have g0:=HS6.out.own
          rw [←HL1.out.1] at g0
          have k3:=g0.frozenAt (k*4+3)
          have zv:gv<wE.heap.size:=by
           have g1:=HS5.out.own
           rw [←HL1.out.1] at g1
           exact (g1.lt gv rfl).2
          have zB:B<wE.heap.size:=HS5.out.lt
          clear hO8 hb8 t0 t1 t2 zt g0
          have KEY:Hid (∀(v9:Value) (wH:World),wH.ownsRow wE.heap.size 56 3 v9 (ul+1) (flatV ((l.map (tg L)).take p++[(T0,T1,T2)]++(l.map (tg L)).drop p))→Bl wE wH→HSt w4 (wH.setCell ⟨gv,k*4+3,none⟩ v9) B (.int .i64 (W:Int)) (.int .i64 (H:Int)) (.slice a' m ca') (.slice b' n cb') (.slice (some ⟨g',0,none⟩) nn c') (.slice (some ⟨gv,0,none⟩) r1 cv1) (R1.set k ((P0,P1,P2),v9)) (trS L (hpN (mvP L M) (hvs hs) (i+1)))∧CapsOk (R1.set k ((P0,P1,P2),v9))):=fun v9 wH hO9 hb9=>by
           have hT9:((l.map (tg L)).take p++[(T0,T1,T2)]++(l.map (tg L)).drop p).length=ul+1:=by
            rw [HL1.out.2.2.1]
            simp
            have:=HL1.out.2.2.1
            omega
           rw [←hT9] at hO9
           obtain ⟨a9,c9,hv9,hTr9⟩:=Jk hO9
           have hh:=HS5.out.kept hb9
           have ho:=hh.own
           have hst:=ho
           have hr1:=HL1.out.1
           subst hr1
           obtain ⟨o1,g1⟩:=ho.stored (k*4+3) v9
           rw [rowS_set3 R1 k v9 hkl,HL2.out.1] at o1
           have hp:=hh.put hkl g1 o1 (fun q e=>by
            have h5:=hO9.lt q e
            have h6:gv<wE.heap.size:=by
             have g1:=HS5.out.own
             exact (g1.lt gv rfl).2
            have h7:=HS5.out.lt
            exact ⟨by omega,h5.2,by omega⟩) ⟨a9,c9,hv9,hTr9⟩
           refine ⟨?_,fun x hx a n c e=>?_⟩
           ·have e1:trS L (hpN (mvP L M) (hvs hs) (i+1))=(trS L S1).set k ((P0,P1,P2),(l.map (tg L)).take p++[(T0,T1,T2)]++(l.map (tg L)).drop p):=by
             have e2:hpN (mvP L M) (hvs hs) (i+1)=insS (hvs hs) i (P0,P1,P2) S:=by rw [HR.out.2.2,HPI.out.1];rfl
             rw [e2,HL1.out.2.2.2.2.2,insN_at l p (by rw [←HL1.out.2.2.1];exact hp') HT5.out.2.1.1 HT5.out.2.1.2]
             simp [trS,List.map_set,HPI.out.2]
            rw [e1]
            exact hp
           ·rcases List.mem_or_eq_of_mem_set hx with hx|hx
            ·exact HC1.out x hx a n c e
            ·subst hx
             dsimp only at e
             rcases hO9.2 with ⟨h5,h6⟩|⟨_,_,_,h5,_,_,h6,_⟩
             ·rw [h5] at e
              cases e
              omega
             ·rw [h5] at e
              cases e
              exact h6
          by_cases hpu:p<ul
          ·obtain ⟨gu,eu,_⟩:=HTG.out 0 (by rw [List.length_map,←HL1.out.2.2.1];omega)
           subst eu
           have hg8:=HO8.out.1.lt g8 rfl
           have nB:some B≠(Value.slice (some ⟨g8,0,none⟩) (p+1) c8).ownBlock:=fun e=>by
            simp [Value.ownBlock] at e
            omega
           have nv:some gv≠(Value.slice (some ⟨g8,0,none⟩) (p+1) c8).ownBlock:=fun e=>by
            simp [Value.ownBlock] at e
            omega
           have zvG:gv<wG.heap.size:=by omega
           have hucp:¬uc=p:=by omega
           have nBv:B<gv:=by
            have g1:=HS5.out.own
            rw [←HL1.out.1] at g1
            have:=(g1.lt gv rfl).1
            omega
           go_upto_region 24 with fail
           go_region_held3 (fun w'=>w'.cell? ⟨B,5,none⟩=some (.slice (some ⟨gv,0,none⟩) r1 cv1))
            ((with_reducible repeat (first|assumption|refine Qi ?_|refine Qj ?_ (by dsimp only;omega))))
            (first
             | (refine step_append_lies _ (by rfl) (.tmp 144) (.tmp 147) 57 (by rfl) wE.heap.size 56 i85 (.agg #[.int .i64 0,.int .i64 0,.int .i64 0]) 3 24 Tryz.underlying57 HI85.out.1 HI85.out.2.1 HI85.out.2.2.1 HI85.out.2.2.2 rfl (by decide) (.slice (some ⟨g8,0,none⟩) (p+1) c8) (p+1) (flatV ((l.map (tg L)).take p++[(T0,T1,T2)])) (by rfl) (Qs HO8.out.1 (Qf (Qc _))) ⟨gu,p*3,none⟩ (ul-p) (uc-p) (flatV ((l.map (tg L)).drop p)) (by rfl) (by rw [Jx,List.length_drop,List.length_map,←HL1.out.2.2.1]) (fun j u hu=>by rw [addr_add];exact trow_drop HTG.out p j u hu) (flatV_one _) (by omega) (by unfold maxLen;omega) (by omega) (by exact hzG) wG.heap.size (by rfl) ?_;intro g10 c10 w10 hown hgrow hat hlt;have z5:w10.cell? ⟨B,5,none⟩=some (.slice (some ⟨gv,0,none⟩) r1 cv1):=hgrow.cell (Qi q5) nB;have z3:=hgrow.cell (Qi s3) nv;have zk:w10.frozen? ⟨gv,k*4+3,none⟩=false:=(World.frozen?_of_block (a:=⟨gv,k*4+3,none⟩) (hgrow.block gv zvG nv)).trans k3;have HO10:Hid (w10.ownsRow wE.heap.size 56 3 (.slice (some ⟨g10,0,none⟩) (p+1+(ul-p)) c10) (p+1+(ul-p)) (flatV ((l.map (tg L)).take p++[(T0,T1,T2)])++flatV ((l.map (tg L)).drop p))∧Bl wE w10):=⟨hown,(Qe HO8.out.2 (Qf (Qc _))).grown hgrow (Nat.le_trans hzG (Nat.le_refl _)) (fun q e=>(HO8.out.1.lt q e).1)⟩;clear hown hgrow hat hlt))
           have eul:p+1+(ul-p)=ul+1:=by omega
           all_goals
            rw [eul,←Jq] at HO10
            have HK:Hid (HSt w4 (w10.setCell ⟨gv,k*4+3,none⟩ (.slice (some ⟨g10,0,none⟩) (ul+1) c10)) B (.int .i64 (W:Int)) (.int .i64 (H:Int)) (.slice a' m ca') (.slice b' n cb') (.slice (some ⟨g',0,none⟩) nn c') (.slice (some ⟨gv,0,none⟩) r1 cv1) (R1.set k ((P0,P1,P2),.slice (some ⟨g10,0,none⟩) (ul+1) c10)) (trS L (hpN (mvP L M) (hvs hs) (i+1)))∧CapsOk (R1.set k ((P0,P1,P2),.slice (some ⟨g10,0,none⟩) (ul+1) c10))):=KEY.out _ _ HO10.out.1 HO10.out.2
            go_wp2
            go_roundg (nn-(i+1))
            case measure=>omega
            case rel=>exact ⟨i+1,_,_,by omega,rfl,by go_num,by first|exact HK.out.1|(rw [eul];exact HK.out.1),HK.out.2⟩
          ·obtain rfl:p=ul:=by omega
           have hdr:(l.map (tg L)).drop p=[]:=List.drop_eq_nil_of_le (by rw [List.length_map,←HL1.out.2.2.1];exact Nat.le_refl _)
           have HK:Hid (∀wq:World,wq=wG∨wq=wG.drew→HSt w4 (wq.setCell ⟨gv,k*4+3,none⟩ (.slice (some ⟨g8,0,none⟩) (p+1) c8)) B (.int .i64 (W:Int)) (.int .i64 (H:Int)) (.slice a' m ca') (.slice b' n cb') (.slice (some ⟨g',0,none⟩) nn c') (.slice (some ⟨gv,0,none⟩) r1 cv1) (R1.set k ((P0,P1,P2),.slice (some ⟨g8,0,none⟩) (p+1) c8)) (trS L (hpN (mvP L M) (hvs hs) (i+1)))∧CapsOk (R1.set k ((P0,P1,P2),.slice (some ⟨g8,0,none⟩) (p+1) c8))):=fun wq e=>by
            have hd:Bl wG wq:=by
             rcases e with rfl|rfl
             ·exact Qc _
             ·exact Qf (Qc _)
            refine KEY.out _ wq ?_ (Qe HO8.out.2 hd)
            rw [hdr,List.append_nil]
            exact Qs HO8.out.1 hd
           have hc8:p+1≤c8:=by
            rcases HO8.out.1.2 with ⟨e,_⟩|⟨_,_,_,e,_,_,h4,_⟩
            ·cases e
            ·cases e
             exact h4
           have hc8i:(p:Int)+1≤(c8:Int):=by omega
           have hg8:=HO8.out.1.lt g8 rfl
           have zvG:gv<wG.heap.size:=by omega
           have hpp:p-p=0:=by omega
           have nBv:B<gv:=by
            have g1:=HS5.out.own
            rw [←HL1.out.1] at g1
            have:=(g1.lt gv rfl).1
            omega
           have hua:ua=none∨∃x,ua=some x:=by cases ua<;>simp
           rcases hua with rfl|⟨x,rfl⟩
           ·go_upto_region 24 with fail
            go_region_held3 (fun w'=>w'.cell? ⟨B,5,none⟩=some (.slice (some ⟨gv,0,none⟩) r1 cv1))
             ((with_reducible repeat (first|assumption|refine Qi ?_|refine Qj ?_ (by dsimp only;omega))))
             (first|(refine Js (by rfl) (.tmp 144) (.tmp 147) 57 (by rfl) 56 i85 Tryz.underlying57 HI85.out.1 g8 (p+1) c8 hc8 _ _ (by rfl) (by rfl) ?_))
            all_goals
             go_wp2
             go_roundg (nn-(i+1))
             case measure=>omega
             case rel=>exact ⟨i+1,_,_,by omega,rfl,by go_num,by first|(with_reducible exact (HK.out wG (Or.inl rfl)).1.kept (Qf (Qc _)))|(with_reducible exact (HK.out wG (Or.inl rfl)).1),(HK.out wG (Or.inl rfl)).2⟩
           ·by_cases hucp:uc=p
            ·go_upto_region 24 with fail
             go_region_held3 (fun w'=>w'.cell? ⟨B,5,none⟩=some (.slice (some ⟨gv,0,none⟩) r1 cv1))
              ((with_reducible repeat (first|assumption|refine Qi ?_|refine Qj ?_ (by dsimp only;omega))))
              (first|(refine Js (by rfl) (.tmp 144) (.tmp 147) 57 (by rfl) 56 i85 Tryz.underlying57 HI85.out.1 g8 (p+1) c8 hc8 _ _ (by rfl) (by rfl) ?_))
             all_goals
              go_wp2
              go_roundg (nn-(i+1))
              case measure=>omega
              case rel=>exact ⟨i+1,_,_,by omega,rfl,by go_num,by first|(with_reducible exact (HK.out wG (Or.inl rfl)).1.kept (Qf (Qc _)))|(with_reducible exact (HK.out wG (Or.inl rfl)).1),(HK.out wG (Or.inl rfl)).2⟩
            ·go_upto_region 24 with fail
             go_region_held3 (fun w'=>w'.cell? ⟨B,5,none⟩=some (.slice (some ⟨gv,0,none⟩) r1 cv1))
              ((with_reducible repeat (first|assumption|refine Qi ?_|refine Qj ?_ (by dsimp only;omega))))
              (first|(refine Js (by rfl) (.tmp 144) (.tmp 147) 57 (by rfl) 56 i85 Tryz.underlying57 HI85.out.1 g8 (p+1) c8 hc8 _ _ (by rfl) (by rfl) ?_))
             all_goals
              go_wp2
              go_roundg (nn-(i+1))
              case measure=>omega
              case rel=>exact ⟨i+1,_,_,by omega,rfl,by go_num,by first|(with_reducible exact (HK.out wG (Or.inl rfl)).1.kept (Qf (Qc _)))|(with_reducible exact (HK.out wG (Or.inl rfl)).1),(HK.out wG (Or.inl rfl)).2⟩
  ·have i1:¬(i:Int)<(nn:Int):=by omega
   obtain rfl:i=nn:=by omega
   obtain ⟨t9,u9,hv9,hsr9⟩:=HS.out.srowE (base:=w2.heap.size) (Nat.le_trans HL5.out.2.2.2.2 HS.out.low)
   subst hv9
   have c0:=HS.out.c0
   have c1:=HS.out.c1
   have c2:=HS.out.c2
   have c3:=HS.out.c3
   have c4:=HS.out.c4
   have c5:=HS.out.c5
   obtain ⟨⟨b0,b1,b2,b3,b4,b5⟩,bf⟩:=HXB4.out.kept HS.out.bel
   have k0:=bf 0
   have k1:=bf 1
   have k2:=bf 2
   have k3:=bf 3
   have k4:=bf 4
   have k5:=bf 5
   have zB:B<wr.heap.size:=HS.out.lt
   have zb:w.heap.size+1<B:=Nat.lt_of_lt_of_le HL5.out.2.2.2.1 (Nat.le_trans HL5.out.2.2.2.2 HS.out.low)
   have HE:Hid (SRowE wr w2.heap.size t9 (trS L (hpN (mvP L M) (hvs hs) i))):=hsr9
   clear bf hsr9
   go_wp2
   refine bodyPost_ret (v:=.agg #[.int .i64 (W:Int),.int .i64 (H:Int),.slice a' m ca',.slice b' n cb',.slice (some ⟨g',0,none⟩) i c',.slice t9 (trS L (hpN (mvP L M) (hvs hs) i)).length u9]) (by simp [results,Tryz.results48,go_sem, *]) rfl ⟨a',ca',b',cb',g',c',t9,u9,rfl,?_,?_,⟨?_,?_⟩,?_,?_⟩
   ·refine RowF.low (base:=w2.heap.size) ?_ (by have:=HL5.out.2.2.2.1;omega)
    with_reducible repeat (refine RowF.set ?_ (by dsimp only;exact HL5.out.2.2.2.1))
    exact HL5.out.1.kept HS.out.bel
   ·refine RowF.low (base:=w2.heap.size) ?_ (by have:=HL5.out.2.2.2.1;omega)
    with_reducible repeat (refine RowF.set ?_ (by dsimp only;exact HL5.out.2.2.2.1))
    exact HL5.out.2.1.kept HS.out.bel
   ·have hne:g'≠w.heap.size+1:=by
     have h1:=HL5.out.2.2.1
     have h2:=HL5.out.2.2.2.1
     omega
    with_reducible repeat (refine MRow.setE ?_ hne)
    exact HL4.out.2.1.kept HS.out.bel
   ·have h1:=HL5.out.2.2.1
    have h2:=HL5.out.2.2.2.1
    omega
   ·refine SRowE.low (base:=w2.heap.size) ?_ (by have:=HL5.out.2.2.2.1;omega)
    with_reducible repeat (refine SRowE.set ?_ (by dsimp only;exact HL5.out.2.2.2.1))
    exact HE.out
   ·with_reducible repeat (refine Ql ?_ ?_)
    all_goals first|exact Qe HL4.out.2.2.2.2.2.2.1 HS.out.bel|(dsimp only;omega)
end Go.Proofs.YtgpjaecgkkgehaaGreatDoor
