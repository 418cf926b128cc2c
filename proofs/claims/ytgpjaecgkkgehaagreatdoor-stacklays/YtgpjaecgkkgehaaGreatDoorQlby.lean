/- A part of the proof of stackLays_holds. -/
import Derived.Test.YtgpjaecgkkgehaaGreatDoorQlbm
import Derived.Test.YtgpjaecgkkgehaaGreatDoorQlbx
import Derived.Test.YtgpjaecgkkgehaaGreatDoorQlbw
import Derived.Test.YtgpjaecgkkgehaaGreatDoorQlbv
set_option maxRecDepth 100000
set_option maxHeartbeats 40000000
namespace Go.Proofs.YtgpjaecgkkgehaaGreatDoor
open Go.RowKit
def rowM (M:Nat→M6):Nat→List Value
 | 0=>[]
 | n+1=>rowM M n++[.int .i64 (M n).1,.int .i64 (M n).2.1,.int .i64 (M n).2.2.1,.int .i64 (M n).2.2.2.1,.int .i64 (M n).2.2.2.2.1,.int .i64 (M n).2.2.2.2.2]
theorem rowM_len (M:Nat→M6):∀n,(rowM M n).length=n*6
 | 0=>rfl
 | n+1=>by
  unfold rowM
  rw [List.length_append,rowM_len M n]
  simp
  omega
theorem rowM_at (M:Nat→M6):∀n i,i<n→(rowM M n)[i*6]?=some (.int .i64 (M i).1)∧(rowM M n)[i*6+1]?=some (.int .i64 (M i).2.1)∧(rowM M n)[i*6+2]?=some (.int .i64 (M i).2.2.1)∧(rowM M n)[i*6+3]?=some (.int .i64 (M i).2.2.2.1)∧(rowM M n)[i*6+4]?=some (.int .i64 (M i).2.2.2.2.1)∧(rowM M n)[i*6+5]?=some (.int .i64 (M i).2.2.2.2.2)
 | 0,i,h=>by omega
 | n+1,i,h=>by
  unfold rowM
  have hl:=rowM_len M n
  by_cases q:i<n
  ·obtain ⟨h0,h1,h2,h3,h4,h5⟩:=rowM_at M n i q
   refine ⟨?_,?_,?_,?_,?_,?_⟩<;>(rw [List.getElem?_append_left (by omega)];assumption)
  ·have e:i=n:=by omega
   subst e
   refine ⟨?_,?_,?_,?_,?_,?_⟩<;>(rw [List.getElem?_append_right (by omega),hl];simp [Nat.add_sub_cancel_left])
theorem rowM_one (M:Nat→M6):∀n,∀u∈rowM M n,u.oneCell'=true
 | 0,u,h=>by simp [rowM] at h
 | n+1,u,h=>by
  unfold rowM at h
  rcases List.mem_append.1 h with h|h
  ·exact rowM_one M n u h
  ·simp at h
   rcases h with rfl|rfl|rfl|rfl|rfl|rfl<;>rfl
theorem mrow_cells {w:World} {g n:Nat} {M:Nat→M6} (h:MRow w g n M):∀j u,(rowM M n)[j]?=some u→w.cell? ((⟨g,0,none⟩:Addr).add j)=some u:=by
 intro j u hu
 have hadd:(⟨g,0,none⟩:Addr).add j=⟨g,j,none⟩:=by unfold Addr.add;split<;>simp_all
 rw [hadd]
 have hj:j<n*6:=by
  have:=(List.getElem?_eq_some_iff.1 hu).1
  rw [rowM_len] at this
  exact this
 have hi:j / 6<n:=by omega
 obtain ⟨r0,r1,r2,r3,r4,r5⟩:=rowM_at M n (j / 6) hi
 obtain ⟨⟨c0,c1,c2,c3,c4,c5⟩,_⟩:=h (j / 6) hi
 have h6:j % 6=0∨j % 6=1∨j % 6=2∨j % 6=3∨j % 6=4∨j % 6=5:=by omega
 rcases h6 with q|q|q|q|q|q
 ·have e:j=j / 6*6:=by omega
  rw [e] at hu ⊢
  rw [r0] at hu
  rw [←hu]
  exact c0
 ·have e:j=j / 6*6+1:=by omega
  rw [e] at hu ⊢
  rw [r1] at hu
  rw [←hu]
  exact c1
 ·have e:j=j / 6*6+2:=by omega
  rw [e] at hu ⊢
  rw [r2] at hu
  rw [←hu]
  exact c2
 ·have e:j=j / 6*6+3:=by omega
  rw [e] at hu ⊢
  rw [r3] at hu
  rw [←hu]
  exact c3
 ·have e:j=j / 6*6+4:=by omega
  rw [e] at hu ⊢
  rw [r4] at hu
  rw [←hu]
  exact c4
 ·have e:j=j / 6*6+5:=by omega
  rw [e] at hu ⊢
  rw [r5] at hu
  rw [←hu]
  exact c5
theorem own_mrow {w:World} {base n:Nat} {v:Value} {M:Nat→M6} (h:w.ownsRow base 89 6 v n (rowM M n)) (hn:0<n):∃g c,v=.slice (some ⟨g,0,none⟩) n c∧MRow w g n M∧base≤g:=by
 rcases h.2 with ⟨_,h0⟩|⟨g,cap,cur,rfl,hb,h3,_⟩
 ·omega
 ·have hf:∀o,w.frozen? ⟨g,o,none⟩=false:=fun o=>by simp [World.frozen?,h3]
  refine ⟨g,cap,rfl,fun i hi=>⟨?_,⟨hf _,hf _,hf _,hf _,hf _,hf _⟩⟩,hb⟩
  obtain ⟨r0,r1,r2,r3,r4,r5⟩:=rowM_at M n i hi
  refine ⟨?_,?_,?_,?_,?_,?_⟩
  ·rw [h.cellAt (i*6) (by omega),r0]
  ·rw [h.cellAt (i*6+1) (by omega),r1]
  ·rw [h.cellAt (i*6+2) (by omega),r2]
  ·rw [h.cellAt (i*6+3) (by omega),r3]
  ·rw [h.cellAt (i*6+4) (by omega),r4]
  ·rw [h.cellAt (i*6+5) (by omega),r5]
theorem cloneM_any (w:World) (g n c:Nat) (M:Nat→M6) (hM:MRow w g n M) (h0:0<n) (hn:n≤300) :
  Calls Tryz.prog 73 #[.slice (some ⟨g,0,none⟩) n c] w fun e w'=>∃g' c',e=.returned (.slice (some ⟨g',0,none⟩) n c')∧MRow w' g' n M∧w.heap.size≤g'∧Bl w w':=by
 refine (clone_maps w g 0 n c (rowM M n) (rowM_len M n) (mrow_cells hM) (rowM_one M n) (by omega)).mono ?_
 rintro e w' ⟨v,rfl,ho,hb⟩
 obtain ⟨g',c',rfl,h1,h2⟩:=own_mrow ho h0
 exact ⟨g',c',rfl,h1,h2,hb⟩
theorem MRow.set {w:World} {g n:Nat} {M:Nat→M6} (h:MRow w g n M) {b o:Nat} {u:Value} (hne:g≠b):MRow (w.setCell ⟨b,o,none⟩ u) g n M:=h.grown (Qm w b o u) (by simpa using hne)
def StateTo (w w':World) (W H:Int) (n nn:Nat) (zs ks:List Int) (M:Nat→M6) (L:List (Int×Int×Int)) (pl:Nat→Int×Int×Int) (h:Nat→Int) (e:Ending):Prop := ∃a ca b cb g c t u Hp,e=.returned (.agg #[.int .i64 W,.int .i64 H,.slice a zs.length ca,.slice b n cb,.slice (some ⟨g,0,none⟩) nn c,.slice t (List.length Hp) u])∧RowF w' w.heap.size a zs∧RowF w' w.heap.size b ks∧MRow w' g nn M∧w.heap.size≤g∧Heap nn pl h Hp∧SRowF w' w.heap.size t (Hp.map fun s=>(s.1,tgn L s.2))∧Bl w w'
theorem state_any (w:World) (W H:Int) (a b:Option Addr) (ca cb n:Nat) (zs ks:List Int) (ad pa:Option Addr) (cc ra rk gm cm pc:Nat) (M:Nat→M6) (L pl:List (Int×Int×Int)) (rv:Value) (h:Nat→Int) (hz:Row w a zs) (hk:Row w b ks) (hn:ks.length=n*5) (h1:zs.length≤17592186044416) (h2:n≤3518437208883) (ha:a=none∨∃p off,a=some ⟨p,off,none⟩) (hb:b=none∨∃p off,b=some ⟨p,off,none⟩)
  (hl:pl.length=L.length) (hT:TRow w ad L) (hP:TRow w pa pl) (hM:MRow w gm L.length M) (h0:0<L.length) (hn3:L.length≤300) (hS:∀W,Bl w W→SortsN W L.length rv h) (hdis:∀i j,i<pl.length→j<pl.length→pl.getD i (0,0,0)=pl.getD j (0,0,0)→i≠j→h i≠h j) :
  Calls Tryz.prog 33 #[pileV ad L.length cc ra rk gm cm pa pc,.agg #[.int .i64 W,.int .i64 H,.slice a zs.length ca,.slice b n cb],rv] w fun e w'=>StateTo w w' W H n L.length zs ks M L (plcA pl) h e:=by
 have C1:Hid (∀V:World,Bl w V→Calls Tryz.prog 72 #[.agg #[.int .i64 W,.int .i64 H,.slice a zs.length ca,.slice b n cb]] V fun e w'=>CopyTo V w' W H n zs ks e):=fun V hV=>copy_any W H a b ca cb n zs ks V (hz.kept hV) (hk.kept hV) hn h1 h2 ha hb
 have C2:Hid (∀V:World,Bl w V→Calls Tryz.prog 73 #[.slice (some ⟨gm,0,none⟩) L.length cm] V fun e w'=>∃g' c',e=.returned (.slice (some ⟨g',0,none⟩) L.length c')∧MRow w' g' L.length M∧V.heap.size≤g'∧Bl V w'):=fun V hV=>cloneM_any V gm L.length cm M (hM.kept hV) h0 hn3
 have C3:Hid (∀V:World,Bl w V→Calls Tryz.prog 74 #[.agg #[.slice ad L.length cc,.map (some ra),.map (some rk),.slice (some ⟨gm,0,none⟩) L.length cm,.slice pa L.length pc],rv] V fun e w'=>∃a c H,e=.returned (.slice a H.length c)∧Heap L.length (plcA pl) h H∧SRowF w' V.heap.size a (H.map fun s=>(s.1,tgn L s.2))∧Bl V w'):=fun V hV=>stacks_any V ad pa cc ra rk gm cm pc L pl rv h hl (hT.kept hV) (hP.kept hV) h0 hn3 (fun W' hW'=>hS W' (Qe hV hW')) hdis
 unfold pileV
 obtain ⟨nn,hnn⟩:∃nn,nn=L.length:=⟨_,rfl⟩
 obtain ⟨m,hm⟩:∃m,m=zs.length:=⟨_,rfl⟩
 rw [←hm] at C1 ⊢
 rw [←hnn] at C2 C3 ⊢
 have HM:Hid (m=zs.length):=hm
 clear hz hk ha hb hT hP hM hS hdis hm hnn hl
 go_enter Tryz.func33,Tryz.ntmps33
 go_upto_region 1 with fail
 refine Qr (fun W0 hW0=>?_)
 have hw0:Bl w W0.drew:=Qf (by rw [hW0];exact Qb (Qb (Qb (Qc _))))
 have x00:W0.cell? ⟨w.heap.size,0,none⟩=some (.slice ad nn cc):=by rw [hW0];simp [go_sem]
 have x01:W0.cell? ⟨w.heap.size,1,none⟩=some (.map (some ra)):=by rw [hW0];simp [go_sem]
 have x02:W0.cell? ⟨w.heap.size,2,none⟩=some (.map (some rk)):=by rw [hW0];simp [go_sem]
 have x03:W0.cell? ⟨w.heap.size,3,none⟩=some (.slice (some ⟨gm,0,none⟩) nn cm):=by rw [hW0];simp [go_sem]
 have x04:W0.cell? ⟨w.heap.size,4,none⟩=some (.slice pa nn pc):=by rw [hW0];simp [go_sem]
 have x05:W0.cell? ⟨w.heap.size+1,0,none⟩=some (.int .i64 W):=by rw [hW0];simp [go_sem]
 have x06:W0.cell? ⟨w.heap.size+1,1,none⟩=some (.int .i64 H):=by rw [hW0];simp [go_sem]
 have x07:W0.cell? ⟨w.heap.size+1,2,none⟩=some (.slice a m ca):=by rw [hW0];simp [go_sem]
 have x08:W0.cell? ⟨w.heap.size+1,3,none⟩=some (.slice b n cb):=by rw [hW0];simp [go_sem]
 have hz0:w.heap.size+3≤W0.drew.heap.size:=by rw [hW0];simp [World.drew]
 have y00:W0.cell? ⟨w.heap.size+2,0,none⟩=some (.int .i64 0):=by rw [hW0];simp [go_sem]
 have f00:W0.frozen? ⟨w.heap.size+2,0,none⟩=false:=by rw [hW0];simp [go_sem]
 have y01:W0.cell? ⟨w.heap.size+2,1,none⟩=some (.int .i64 0):=by rw [hW0];simp [go_sem]
 have f01:W0.frozen? ⟨w.heap.size+2,1,none⟩=false:=by rw [hW0];simp [go_sem]
 have y02:W0.cell? ⟨w.heap.size+2,2,none⟩=some (.slice none 0 0):=by rw [hW0];simp [go_sem]
 have f02:W0.frozen? ⟨w.heap.size+2,2,none⟩=false:=by rw [hW0];simp [go_sem]
 have y03:W0.cell? ⟨w.heap.size+2,3,none⟩=some (.slice none 0 0):=by rw [hW0];simp [go_sem]
 have f03:W0.frozen? ⟨w.heap.size+2,3,none⟩=false:=by rw [hW0];simp [go_sem]
 have y04:W0.cell? ⟨w.heap.size+2,4,none⟩=some (.slice none 0 0):=by rw [hW0];simp [go_sem]
 have f04:W0.frozen? ⟨w.heap.size+2,4,none⟩=false:=by rw [hW0];simp [go_sem]
 have y05:W0.cell? ⟨w.heap.size+2,5,none⟩=some (.slice none 0 0):=by rw [hW0];simp [go_sem]
 have f05:W0.frozen? ⟨w.heap.size+2,5,none⟩=false:=by rw [hW0];simp [go_sem]
 have zA:w.heap.size<W0.heap.size:=bk x00
 have zB:w.heap.size+1<W0.heap.size:=bk x05
 clear hW0
 go_region_held3 (fun w'=>w'.cell? ⟨w.heap.size,0,none⟩=some (.slice ad nn cc)∧w'.cell? ⟨w.heap.size,1,none⟩=some (.map (some ra))∧w'.cell? ⟨w.heap.size,2,none⟩=some (.map (some rk))∧w'.cell? ⟨w.heap.size,3,none⟩=some (.slice (some ⟨gm,0,none⟩) nn cm)∧w'.cell? ⟨w.heap.size,4,none⟩=some (.slice pa nn pc)∧w'.cell? ⟨w.heap.size+1,0,none⟩=some (.int .i64 W)∧w'.cell? ⟨w.heap.size+1,1,none⟩=some (.int .i64 H)∧w'.cell? ⟨w.heap.size+1,2,none⟩=some (.slice a m ca)∧w'.cell? ⟨w.heap.size+1,3,none⟩=some (.slice b n cb))
  ((refine ⟨?_,?_,?_,?_,?_,?_,?_,?_,?_⟩<;>(first|(with_reducible (repeat (first|assumption|refine Qi ?_));done)|((repeat (with_reducible refine Qj ?_ (by dsimp only;omega)));with_reducible assumption))))
  (first
   | (go_at_call 72;refine (C1.out _ (by first | exact hw2 | exact hw3 | exact hw0)).mono ?_;rintro e w1 ⟨a1,k1,a2,k2,rfl,hA1,hA2,hb1⟩;have hw1:Bl w w1:=(by first | exact Qe hw2 hb1 | exact Qe hw3 hb1 | exact Qe hw0 hb1);have hz1:w.heap.size+3≤w1.heap.size:=Nat.le_trans (by first | exact hz2 | exact hz3 | exact hz0) hb1.size;have HA1:Hid (RowF w1 (w.heap.size+3) a1 zs∧RowF w1 (w.heap.size+3) a2 ks):=⟨hA1.low (by first | exact hz2 | exact hz3 | exact hz0),hA2.low (by first | exact hz2 | exact hz3 | exact hz0)⟩;clear hA1 hA2;have x10:=Qa hb1 (by first | exact x00 | exact x20 | exact x30);have x11:=Qa hb1 (by first | exact x01 | exact x21 | exact x31);have x12:=Qa hb1 (by first | exact x02 | exact x22 | exact x32);have x13:=Qa hb1 (by first | exact x03 | exact x23 | exact x33);have x14:=Qa hb1 (by first | exact x04 | exact x24 | exact x34);have x15:=Qa hb1 (by first | exact x05 | exact x25 | exact x35);have x16:=Qa hb1 (by first | exact x06 | exact x26 | exact x36);have x17:=Qa hb1 (by first | exact x07 | exact x27 | exact x37);have x18:=Qa hb1 (by first | exact x08 | exact x28 | exact x38);have y10:=Qa hb1 (by first | exact y00 | exact y20 | exact y30);have f10:=(hb1.frozen (p:=⟨w.heap.size+2,0,none⟩) (by first | exact hz0 | exact hz2 | exact hz3)).trans (by first | exact f00 | exact f20 | exact f30);have y11:=Qa hb1 (by first | exact y01 | exact y21 | exact y31);have f11:=(hb1.frozen (p:=⟨w.heap.size+2,1,none⟩) (by first | exact hz0 | exact hz2 | exact hz3)).trans (by first | exact f01 | exact f21 | exact f31);have y12:=Qa hb1 (by first | exact y02 | exact y22 | exact y32);have f12:=(hb1.frozen (p:=⟨w.heap.size+2,2,none⟩) (by first | exact hz0 | exact hz2 | exact hz3)).trans (by first | exact f02 | exact f22 | exact f32);have y13:=Qa hb1 (by first | exact y03 | exact y23 | exact y33);have f13:=(hb1.frozen (p:=⟨w.heap.size+2,3,none⟩) (by first | exact hz0 | exact hz2 | exact hz3)).trans (by first | exact f03 | exact f23 | exact f33);have y14:=Qa hb1 (by first | exact y04 | exact y24 | exact y34);have f14:=(hb1.frozen (p:=⟨w.heap.size+2,4,none⟩) (by first | exact hz0 | exact hz2 | exact hz3)).trans (by first | exact f04 | exact f24 | exact f34);have y15:=Qa hb1 (by first | exact y05 | exact y25 | exact y35);have f15:=(hb1.frozen (p:=⟨w.heap.size+2,5,none⟩) (by first | exact hz0 | exact hz2 | exact hz3)).trans (by first | exact f05 | exact f25 | exact f35))
   | (go_at_call 73;refine (C2.out _ (by first | exact hw1 | exact hw3 | exact hw0)).mono ?_;rintro e w2 ⟨g1,c1,rfl,hG1,hG2,hb2⟩;have hw2:Bl w w2:=(by first | exact Qe hw1 hb2 | exact Qe hw3 hb2 | exact Qe hw0 hb2);have hz2:w.heap.size+3≤w2.heap.size:=Nat.le_trans (by first | exact hz1 | exact hz3 | exact hz0) hb2.size;have HG1:Hid (MRow w2 g1 nn M∧w.heap.size+3≤g1):=⟨hG1,Nat.le_trans (by first | exact hz1 | exact hz3 | exact hz0) hG2⟩;clear hG1 hG2;have x20:=Qa hb2 (by first | exact x00 | exact x10 | exact x30);have x21:=Qa hb2 (by first | exact x01 | exact x11 | exact x31);have x22:=Qa hb2 (by first | exact x02 | exact x12 | exact x32);have x23:=Qa hb2 (by first | exact x03 | exact x13 | exact x33);have x24:=Qa hb2 (by first | exact x04 | exact x14 | exact x34);have x25:=Qa hb2 (by first | exact x05 | exact x15 | exact x35);have x26:=Qa hb2 (by first | exact x06 | exact x16 | exact x36);have x27:=Qa hb2 (by first | exact x07 | exact x17 | exact x37);have x28:=Qa hb2 (by first | exact x08 | exact x18 | exact x38);have y20:=Qa hb2 (by first | exact y00 | exact y10 | exact y30);have f20:=(hb2.frozen (p:=⟨w.heap.size+2,0,none⟩) (by first | exact hz0 | exact hz1 | exact hz3)).trans (by first | exact f00 | exact f10 | exact f30);have y21:=Qa hb2 (by first | exact y01 | exact y11 | exact y31);have f21:=(hb2.frozen (p:=⟨w.heap.size+2,1,none⟩) (by first | exact hz0 | exact hz1 | exact hz3)).trans (by first | exact f01 | exact f11 | exact f31);have y22:=Qa hb2 (by first | exact y02 | exact y12 | exact y32);have f22:=(hb2.frozen (p:=⟨w.heap.size+2,2,none⟩) (by first | exact hz0 | exact hz1 | exact hz3)).trans (by first | exact f02 | exact f12 | exact f32);have y23:=Qa hb2 (by first | exact y03 | exact y13 | exact y33);have f23:=(hb2.frozen (p:=⟨w.heap.size+2,3,none⟩) (by first | exact hz0 | exact hz1 | exact hz3)).trans (by first | exact f03 | exact f13 | exact f33);have y24:=Qa hb2 (by first | exact y04 | exact y14 | exact y34);have f24:=(hb2.frozen (p:=⟨w.heap.size+2,4,none⟩) (by first | exact hz0 | exact hz1 | exact hz3)).trans (by first | exact f04 | exact f14 | exact f34);have y25:=Qa hb2 (by first | exact y05 | exact y15 | exact y35);have f25:=(hb2.frozen (p:=⟨w.heap.size+2,5,none⟩) (by first | exact hz0 | exact hz1 | exact hz3)).trans (by first | exact f05 | exact f15 | exact f35))
   | (go_at_call 74;refine (C3.out _ (by first | exact hw1 | exact hw2 | exact hw0)).mono ?_;rintro e w3 ⟨t1,u1,Hp,rfl,hH1,hH2,hb3⟩;have hw3:Bl w w3:=(by first | exact Qe hw1 hb3 | exact Qe hw2 hb3 | exact Qe hw0 hb3);have hz3:w.heap.size+3≤w3.heap.size:=Nat.le_trans (by first | exact hz1 | exact hz2 | exact hz0) hb3.size;have HH1:Hid (Heap nn (plcA pl) h Hp∧SRowF w3 (w.heap.size+3) t1 (Hp.map fun s=>(s.1,tgn L s.2))):=⟨hH1,hH2.low (by first | exact hz1 | exact hz2 | exact hz0)⟩;clear hH1 hH2;have x30:=Qa hb3 (by first | exact x00 | exact x10 | exact x20);have x31:=Qa hb3 (by first | exact x01 | exact x11 | exact x21);have x32:=Qa hb3 (by first | exact x02 | exact x12 | exact x22);have x33:=Qa hb3 (by first | exact x03 | exact x13 | exact x23);have x34:=Qa hb3 (by first | exact x04 | exact x14 | exact x24);have x35:=Qa hb3 (by first | exact x05 | exact x15 | exact x25);have x36:=Qa hb3 (by first | exact x06 | exact x16 | exact x26);have x37:=Qa hb3 (by first | exact x07 | exact x17 | exact x27);have x38:=Qa hb3 (by first | exact x08 | exact x18 | exact x28);have y30:=Qa hb3 (by first | exact y00 | exact y10 | exact y20);have f30:=(hb3.frozen (p:=⟨w.heap.size+2,0,none⟩) (by first | exact hz0 | exact hz1 | exact hz2)).trans (by first | exact f00 | exact f10 | exact f20);have y31:=Qa hb3 (by first | exact y01 | exact y11 | exact y21);have f31:=(hb3.frozen (p:=⟨w.heap.size+2,1,none⟩) (by first | exact hz0 | exact hz1 | exact hz2)).trans (by first | exact f01 | exact f11 | exact f21);have y32:=Qa hb3 (by first | exact y02 | exact y12 | exact y22);have f32:=(hb3.frozen (p:=⟨w.heap.size+2,2,none⟩) (by first | exact hz0 | exact hz1 | exact hz2)).trans (by first | exact f02 | exact f12 | exact f22);have y33:=Qa hb3 (by first | exact y03 | exact y13 | exact y23);have f33:=(hb3.frozen (p:=⟨w.heap.size+2,3,none⟩) (by first | exact hz0 | exact hz1 | exact hz2)).trans (by first | exact f03 | exact f13 | exact f23);have y34:=Qa hb3 (by first | exact y04 | exact y14 | exact y24);have f34:=(hb3.frozen (p:=⟨w.heap.size+2,4,none⟩) (by first | exact hz0 | exact hz1 | exact hz2)).trans (by first | exact f04 | exact f14 | exact f24);have y35:=Qa hb3 (by first | exact y05 | exact y15 | exact y25);have f35:=(hb3.frozen (p:=⟨w.heap.size+2,5,none⟩) (by first | exact hz0 | exact hz1 | exact hz2)).trans (by first | exact f05 | exact f15 | exact f25)))
 all_goals
  go_wp2
  refine bodyPost_ret (v:=.agg #[.int .i64 W,.int .i64 H,.slice a1 zs.length k1,.slice a2 n k2,.slice (some ⟨g1,0,none⟩) nn c1,.slice t1 Hp.length u1]) (by first|(simp [results,Tryz.results33,go_sem];done)|(simp [results,Tryz.results33,go_sem];done)|(simp [results,Tryz.results33,go_sem,y30,y31,y32,y33,y34,y35];done)) rfl ⟨a1,k1,a2,k2,g1,c1,t1,u1,Hp,rfl,?_,?_,?_,(by have:=HG1.out.2;omega),HH1.out.1,?_,?_⟩
  ·refine RowF.low (base:=w.heap.size+3) ?_ (by omega)
   with_reducible repeat (refine RowF.set ?_ (by dsimp only;omega))
   exact HA1.out.1.kept (by with_reducible first|exact Qc _|exact hb2|exact hb3|exact Qe hb2 hb3|exact Qe hb3 hb2)
  ·refine RowF.low (base:=w.heap.size+3) ?_ (by omega)
   with_reducible repeat (refine RowF.set ?_ (by dsimp only;omega))
   exact HA1.out.2.kept (by with_reducible first|exact Qc _|exact hb2|exact hb3|exact Qe hb2 hb3|exact Qe hb3 hb2)
  ·have hg1:=HG1.out.2
   with_reducible repeat (refine MRow.set ?_ (by omega))
   exact HG1.out.1.kept (by with_reducible first|exact Qc _|exact hb1|exact hb3|exact Qe hb1 hb3|exact Qe hb3 hb1)
  ·refine SRowF.low (base:=w.heap.size+3) ?_ (by omega)
   with_reducible repeat (refine SRowF.set ?_ (by dsimp only;omega))
   exact HH1.out.2.kept (by with_reducible first|exact Qc _|exact hb1|exact hb2|exact Qe hb1 hb2|exact Qe hb2 hb1)
  ·with_reducible repeat (refine Ql ?_ ?_)
   all_goals first|(with_reducible exact hw1)|(with_reducible exact hw2)|(with_reducible exact hw3)|omega|(dsimp only;omega)
end Go.Proofs.YtgpjaecgkkgehaaGreatDoor
namespace Go.Proofs.YtgpjaecgkkgehaaGreatDoor
open Go.RowKit Go.ChangeMaps
theorem stackLays_no (W H:Int) (a c ah:Option Addr) (zl ca n cc hl hc:Nat) (zs ks hs:List Int) (w:World) (CS:Hid (∀V:World,Bl w V→Calls Tryz.prog 8 #[.agg #[.int .i64 W,.int .i64 H,.slice a zl ca,.slice c n cc]] V fun e w'=>∃a' ca' b' cb',e=.returned (.agg #[.int .i64 W,.int .i64 H,.slice a' zl ca',.slice b' n cb'])∧Row w' a' zs∧Row w' b' ks∧(b'=none∨∃p o,b'=some ⟨p,o,none⟩)∧Bl V w')) (CI:Hid (∀V:World,Bl w V→Calls Tryz.prog 9 #[.slice ah hl hc] V fun e w'=>∃a' c',e=.returned (.slice a' hl c')∧Row w' a' hs∧Bl V w')) (CL:Hid (∀(V:World) (a' b' a3:Option Addr) (ca' cb' c3:Nat),Bl w V→Row V a' zs→Row V b' ks→(b'=none∨∃p o,b'=some ⟨p,o,none⟩)→Row V a3 hs→Calls Tryz.prog 7 #[.agg #[.int .i64 W,.int .i64 H,.slice a' zl ca',.slice b' n cb'],.slice a3 hl c3] V fun e w'=>e=.returned (.tuple #[.agg #[.int .i64 0,.int .i64 0,.slice none 0 0,.slice none 0 0,.slice none 0 0,.slice none 0 0],.int .i64 10])∧Bl V w')) (CM:Hid (∀V:World,Bl w V→Calls Tryz.prog 10 #[.agg #[.int .i64 W,.int .i64 H,.slice a zl ca,.slice c n cc]] V fun e w'=>e=.returned (.bool false)∧Bl V w')) :
  Calls Tryz.prog 3 #[.agg #[.int .i64 W,.int .i64 H,.slice a zl ca,.slice c n cc],.slice ah hl hc] w fun e w'=>e=.returned (.bool true)∧Bl w w':=by
 go_enter Tryz.func3,Tryz.ntmps3
 go_upto_region 1 with fail
 refine Qr (fun W0 hW0=>?_)
 have hw0:Bl w W0:=by rw [hW0];exact Qb (Qc _)
 have x0:W0.cell? ⟨w.heap.size,0,none⟩=some (.int .i64 W):=by rw [hW0];simp [go_sem]
 have x1:W0.cell? ⟨w.heap.size,1,none⟩=some (.int .i64 H):=by rw [hW0];simp [go_sem]
 have x2:W0.cell? ⟨w.heap.size,2,none⟩=some (.slice a zl ca):=by rw [hW0];simp [go_sem]
 have x3:W0.cell? ⟨w.heap.size,3,none⟩=some (.slice c n cc):=by rw [hW0];simp [go_sem]
 clear hW0
 go_upto_region 2 with (first
  | (go_at_call 8;refine (CS.out _ hw0).mono ?_;rintro e w2 ⟨a',ca',b',cb',rfl,hz2,hk2,hf2,hb2⟩;have HF2:Hid (b'=none∨∃p o,b'=some ⟨p,o,none⟩):=hf2;have H2:Hid (Row w2 a' zs∧Row w2 b' ks∧Bl W0 w2∧Bl w w2):=⟨hz2,hk2,hb2,Qe hw0 hb2⟩;clear hz2 hk2 hb2 hf2)
  | (go_at_call 9;refine (CI.out _ H2.out.2.2.2).mono ?_;rintro e w3 ⟨a3,c3,rfl,hr3,hb3⟩;have H3:Hid (Row w3 a' zs∧Row w3 b' ks∧Row w3 a3 hs∧Bl W0 w3∧Bl w w3):=⟨H2.out.1.kept hb3,H2.out.2.1.kept hb3,hr3,Qe H2.out.2.2.1 hb3,Qe H2.out.2.2.2 hb3⟩;clear hr3 hb3)
  | (go_at_call 7;refine (CL.out _ a' b' a3 ca' cb' c3 H3.out.2.2.2.2 H3.out.1 H3.out.2.1 HF2.out H3.out.2.2.1).mono ?_;rintro e w4 ⟨rfl,hb4⟩;have H4:Hid (Bl W0 w4∧Bl w w4∧Bl w3 w4):=⟨Qe H3.out.2.2.2.1 hb4,Qe H3.out.2.2.2.2 hb4,hb4⟩;clear hb4))
 refine Qr (fun W5 hW5=>?_)
 obtain ⟨G,hG⟩:∃G,G=w4.heap.size:=⟨_,rfl⟩
 have s0:W5.cell? ⟨w.heap.size,0,none⟩=some (.int .i64 W):=by
  have h:=Qa H4.out.1 x0
  have hlt:w.heap.size<w4.heap.size:=bk (Qa H4.out.1 x0)
  rw [hW5]
  with_reducible repeat (refine Qj ?_ (by dsimp only;omega))
  exact Qh h
 have s1:W5.cell? ⟨w.heap.size,1,none⟩=some (.int .i64 H):=by
  have h:=Qa H4.out.1 x1
  have hlt:w.heap.size<w4.heap.size:=bk (Qa H4.out.1 x1)
  rw [hW5]
  with_reducible repeat (refine Qj ?_ (by dsimp only;omega))
  exact Qh h
 have s2:W5.cell? ⟨w.heap.size,2,none⟩=some (.slice a zl ca):=by
  have h:=Qa H4.out.1 x2
  have hlt:w.heap.size<w4.heap.size:=bk (Qa H4.out.1 x2)
  rw [hW5]
  with_reducible repeat (refine Qj ?_ (by dsimp only;omega))
  exact Qh h
 have s3:W5.cell? ⟨w.heap.size,3,none⟩=some (.slice c n cc):=by
  have h:=Qa H4.out.1 x3
  have hlt:w.heap.size<w4.heap.size:=bk (Qa H4.out.1 x3)
  rw [hW5]
  with_reducible repeat (refine Qj ?_ (by dsimp only;omega))
  exact Qh h
 have d0:W5.cell? ⟨G,0,none⟩=some (.int .i64 0):=by rw [hW5,hG];simp [go_sem]
 have d1:W5.cell? ⟨G,1,none⟩=some (.int .i64 0):=by rw [hW5,hG];simp [go_sem]
 have d2:W5.cell? ⟨G,2,none⟩=some (.slice none 0 0):=by rw [hW5,hG];simp [go_sem]
 have d3:W5.cell? ⟨G,3,none⟩=some (.slice none 0 0):=by rw [hW5,hG];simp [go_sem]
 have d4:W5.cell? ⟨G,4,none⟩=some (.slice none 0 0):=by rw [hW5,hG];simp [go_sem]
 have d5:W5.cell? ⟨G,5,none⟩=some (.slice none 0 0):=by rw [hW5,hG];simp [go_sem]
 have hw5:Bl w W5:=by
  have:=H4.out.2.1.size
  rw [hW5]
  with_reducible repeat (refine Ql ?_ ?_)
  all_goals first|exact Qb H4.out.2.1|(dsimp only;omega)
 have HB5:Hid (Bl w4 W5∧Bl w W5):=⟨by
  rw [hW5]
  with_reducible repeat (refine Ql ?_ ?_)
  all_goals first|exact Qb (Qc _)|(dsimp only;omega),hw5⟩
 have zS:w.heap.size<W5.heap.size:=bk s0
 have zG:G<W5.heap.size:=bk d0
 rw [←hG]
 clear hW5 hG hw5 x0 x1 x2 x3 hw0 CS CI CL
 go_wp2_with (first|(go_at_call 10;refine (CM.out _ HB5.out.2).mono ?_;rintro e w6 ⟨rfl,hb6⟩;have HB6:Hid (Bl w w6∧Bl w4 w6):=⟨Qe HB5.out.2 hb6,Qe HB5.out.1 hb6⟩;replace s0:=Qa hb6 s0;replace s1:=Qa hb6 s1;replace s2:=Qa hb6 s2;replace s3:=Qa hb6 s3;replace d0:=Qa hb6 d0;replace d1:=Qa hb6 d1;replace d2:=Qa hb6 d2;replace d3:=Qa hb6 d3;replace d4:=Qa hb6 d4;replace d5:=Qa hb6 d5;replace zS:=bk s0;replace zG:=bk d0;clear hb6)|(go_at_call 11;refine (none_yes _).mono ?_;rintro e w9 ⟨rfl,hb9⟩;have HB9:Hid (Bl w w9):=Qe HB6.out.1 hb9;clear hb9))
 go_ret
 exact ⟨rfl,HB9.out⟩
theorem stackLays_tear (W H:Int) (a c ah:Option Addr) (zl ca n cc hl hc:Nat) (zs ks hs:List Int) (w:World) (CS:Hid (∀V:World,Bl w V→Calls Tryz.prog 8 #[.agg #[.int .i64 W,.int .i64 H,.slice a zl ca,.slice c n cc]] V fun e w'=>∃a' ca' b' cb',e=.returned (.agg #[.int .i64 W,.int .i64 H,.slice a' zl ca',.slice b' n cb'])∧Row w' a' zs∧Row w' b' ks∧(b'=none∨∃p o,b'=some ⟨p,o,none⟩)∧Bl V w')) (CI:Hid (∀V:World,Bl w V→Calls Tryz.prog 9 #[.slice ah hl hc] V fun e w'=>∃a' c',e=.returned (.slice a' hl c')∧Row w' a' hs∧Bl V w')) (CL:Hid (∀(V:World) (a' b' a3:Option Addr) (ca' cb' c3:Nat),Bl w V→Row V a' zs→Row V b' ks→(b'=none∨∃p o,b'=some ⟨p,o,none⟩)→Row V a3 hs→Calls Tryz.prog 7 #[.agg #[.int .i64 W,.int .i64 H,.slice a' zl ca',.slice b' n cb'],.slice a3 hl c3] V fun e w'=>e=.returned (.tuple #[.agg #[.int .i64 0,.int .i64 0,.slice none 0 0,.slice none 0 0,.slice none 0 0,.slice none 0 0],.int .i64 8])∧Bl V w')) (CM:Hid (∀V:World,Bl w V→Calls Tryz.prog 10 #[.agg #[.int .i64 W,.int .i64 H,.slice a zl ca,.slice c n cc]] V fun e w'=>e=.returned (.bool true)∧Bl V w')) (CP:Hid (∀V:World,Bl w V→Calls Tryz.prog 12 #[.agg #[.int .i64 W,.int .i64 H,.slice a zl ca,.slice c n cc]] V fun e w'=>e=.returned (.tuple #[.slice none 0 0,.bool false])∧Bl V w')) :
  Calls Tryz.prog 3 #[.agg #[.int .i64 W,.int .i64 H,.slice a zl ca,.slice c n cc],.slice ah hl hc] w fun e w'=>e=.returned (.bool true)∧Bl w w':=by
 go_enter Tryz.func3,Tryz.ntmps3
 go_upto_region 1 with fail
 refine Qr (fun W0 hW0=>?_)
 have hw0:Bl w W0:=by rw [hW0];exact Qb (Qc _)
 have x0:W0.cell? ⟨w.heap.size,0,none⟩=some (.int .i64 W):=by rw [hW0];simp [go_sem]
 have x1:W0.cell? ⟨w.heap.size,1,none⟩=some (.int .i64 H):=by rw [hW0];simp [go_sem]
 have x2:W0.cell? ⟨w.heap.size,2,none⟩=some (.slice a zl ca):=by rw [hW0];simp [go_sem]
 have x3:W0.cell? ⟨w.heap.size,3,none⟩=some (.slice c n cc):=by rw [hW0];simp [go_sem]
 clear hW0
 go_upto_region 2 with (first
  | (go_at_call 8;refine (CS.out _ hw0).mono ?_;rintro e w2 ⟨a',ca',b',cb',rfl,hz2,hk2,hf2,hb2⟩;have HF2:Hid (b'=none∨∃p o,b'=some ⟨p,o,none⟩):=hf2;have H2:Hid (Row w2 a' zs∧Row w2 b' ks∧Bl W0 w2∧Bl w w2):=⟨hz2,hk2,hb2,Qe hw0 hb2⟩;clear hz2 hk2 hb2 hf2)
  | (go_at_call 9;refine (CI.out _ H2.out.2.2.2).mono ?_;rintro e w3 ⟨a3,c3,rfl,hr3,hb3⟩;have H3:Hid (Row w3 a' zs∧Row w3 b' ks∧Row w3 a3 hs∧Bl W0 w3∧Bl w w3):=⟨H2.out.1.kept hb3,H2.out.2.1.kept hb3,hr3,Qe H2.out.2.2.1 hb3,Qe H2.out.2.2.2 hb3⟩;clear hr3 hb3)
  | (go_at_call 7;refine (CL.out _ a' b' a3 ca' cb' c3 H3.out.2.2.2.2 H3.out.1 H3.out.2.1 HF2.out H3.out.2.2.1).mono ?_;rintro e w4 ⟨rfl,hb4⟩;have H4:Hid (Bl W0 w4∧Bl w w4∧Bl w3 w4):=⟨Qe H3.out.2.2.2.1 hb4,Qe H3.out.2.2.2.2 hb4,hb4⟩;clear hb4))
 refine Qr (fun W5 hW5=>?_)
 obtain ⟨G,hG⟩:∃G,G=w4.heap.size:=⟨_,rfl⟩
 have s0:W5.cell? ⟨w.heap.size,0,none⟩=some (.int .i64 W):=by
  have h:=Qa H4.out.1 x0
  have hlt:w.heap.size<w4.heap.size:=bk (Qa H4.out.1 x0)
  rw [hW5]
  with_reducible repeat (refine Qj ?_ (by dsimp only;omega))
  exact Qh h
 have s1:W5.cell? ⟨w.heap.size,1,none⟩=some (.int .i64 H):=by
  have h:=Qa H4.out.1 x1
  have hlt:w.heap.size<w4.heap.size:=bk (Qa H4.out.1 x1)
  rw [hW5]
  with_reducible repeat (refine Qj ?_ (by dsimp only;omega))
  exact Qh h
 have s2:W5.cell? ⟨w.heap.size,2,none⟩=some (.slice a zl ca):=by
  have h:=Qa H4.out.1 x2
  have hlt:w.heap.size<w4.heap.size:=bk (Qa H4.out.1 x2)
  rw [hW5]
  with_reducible repeat (refine Qj ?_ (by dsimp only;omega))
  exact Qh h
 have s3:W5.cell? ⟨w.heap.size,3,none⟩=some (.slice c n cc):=by
  have h:=Qa H4.out.1 x3
  have hlt:w.heap.size<w4.heap.size:=bk (Qa H4.out.1 x3)
  rw [hW5]
  with_reducible repeat (refine Qj ?_ (by dsimp only;omega))
  exact Qh h
 have d0:W5.cell? ⟨G,0,none⟩=some (.int .i64 0):=by rw [hW5,hG];simp [go_sem]
 have d1:W5.cell? ⟨G,1,none⟩=some (.int .i64 0):=by rw [hW5,hG];simp [go_sem]
 have d2:W5.cell? ⟨G,2,none⟩=some (.slice none 0 0):=by rw [hW5,hG];simp [go_sem]
 have d3:W5.cell? ⟨G,3,none⟩=some (.slice none 0 0):=by rw [hW5,hG];simp [go_sem]
 have d4:W5.cell? ⟨G,4,none⟩=some (.slice none 0 0):=by rw [hW5,hG];simp [go_sem]
 have d5:W5.cell? ⟨G,5,none⟩=some (.slice none 0 0):=by rw [hW5,hG];simp [go_sem]
 have hw5:Bl w W5:=by
  have:=H4.out.2.1.size
  rw [hW5]
  with_reducible repeat (refine Ql ?_ ?_)
  all_goals first|exact Qb H4.out.2.1|(dsimp only;omega)
 have HB5:Hid (Bl w4 W5∧Bl w W5):=⟨by
  rw [hW5]
  with_reducible repeat (refine Ql ?_ ?_)
  all_goals first|exact Qb (Qc _)|(dsimp only;omega),hw5⟩
 have zS:w.heap.size<W5.heap.size:=bk s0
 have zG:G<W5.heap.size:=bk d0
 rw [←hG]
 clear hW5 hG hw5 x0 x1 x2 x3 hw0 CS CI CL
 go_wp2_with (first|(go_at_call 10;refine (CM.out _ HB5.out.2).mono ?_;rintro e w6 ⟨rfl,hb6⟩;have HB6:Hid (Bl w w6∧Bl w4 w6):=⟨Qe HB5.out.2 hb6,Qe HB5.out.1 hb6⟩;replace s0:=Qa hb6 s0;replace s1:=Qa hb6 s1;replace s2:=Qa hb6 s2;replace s3:=Qa hb6 s3;replace d0:=Qa hb6 d0;replace d1:=Qa hb6 d1;replace d2:=Qa hb6 d2;replace d3:=Qa hb6 d3;replace d4:=Qa hb6 d4;replace d5:=Qa hb6 d5;replace zS:=bk s0;replace zG:=bk d0;clear hb6)|(go_at_call 12;refine (CP.out _ HB6.out.1).mono ?_;rintro e w7 ⟨rfl,hb7⟩;have HB7:Hid (Bl w w7):=Qe HB6.out.1 hb7;replace s0:=Qa hb7 s0;replace s1:=Qa hb7 s1;replace s2:=Qa hb7 s2;replace s3:=Qa hb7 s3;replace d0:=Qa hb7 d0;replace d1:=Qa hb7 d1;replace d2:=Qa hb7 d2;replace d3:=Qa hb7 d3;replace d4:=Qa hb7 d4;replace d5:=Qa hb7 d5;replace zS:=bk s0;replace zG:=bk d0;clear hb7)|(go_at_call 11;refine (none_yes _).mono ?_;rintro e w9 ⟨rfl,hb9⟩;have HB9:Hid (Bl w w9):=Qe HB7.out hb9;clear hb9))
 go_ret
 exact ⟨rfl,HB9.out⟩
theorem stackLays_size (W H:Int) (a c ah:Option Addr) (zl ca n cc hl hc:Nat) (zs ks hs:List Int) (w:World) (nn fl:Nat) (M:Nat→M6) (CS:Hid (∀V:World,Bl w V→Calls Tryz.prog 8 #[.agg #[.int .i64 W,.int .i64 H,.slice a zl ca,.slice c n cc]] V fun e w'=>∃a' ca' b' cb',e=.returned (.agg #[.int .i64 W,.int .i64 H,.slice a' zl ca',.slice b' n cb'])∧Row w' a' zs∧Row w' b' ks∧(b'=none∨∃p o,b'=some ⟨p,o,none⟩)∧Bl V w')) (CI:Hid (∀V:World,Bl w V→Calls Tryz.prog 9 #[.slice ah hl hc] V fun e w'=>∃a' c',e=.returned (.slice a' hl c')∧Row w' a' hs∧Bl V w')) (CL:Hid (∀(V:World) (a' b' a3:Option Addr) (ca' cb' c3:Nat),Bl w V→Row V a' zs→Row V b' ks→(b'=none∨∃p o,b'=some ⟨p,o,none⟩)→Row V a3 hs→Calls Tryz.prog 7 #[.agg #[.int .i64 W,.int .i64 H,.slice a' zl ca',.slice b' n cb'],.slice a3 hl c3] V fun e w'=>e=.returned (.tuple #[.agg #[.int .i64 0,.int .i64 0,.slice none 0 0,.slice none 0 0,.slice none 0 0,.slice none 0 0],.int .i64 2])∧Bl V w')) (CM:Hid (∀V:World,Bl w V→Calls Tryz.prog 10 #[.agg #[.int .i64 W,.int .i64 H,.slice a zl ca,.slice c n cc]] V fun e w'=>e=.returned (.bool true)∧Bl V w')) (CP:Hid (∀V:World,Bl w V→Calls Tryz.prog 12 #[.agg #[.int .i64 W,.int .i64 H,.slice a zl ca,.slice c n cc]] V fun e w'=>∃g,e=.returned (.tuple #[.slice (some ⟨g,0,none⟩) nn nn,.bool true])∧MRow w' g nn M∧Bl V w')) (CF:Hid (∀V:World,Bl w V→Calls Tryz.prog 13 #[.agg #[.int .i64 W,.int .i64 H,.slice a zl ca,.slice c n cc]] V fun e w'=>∃a' c',e=.returned (.slice a' fl c')∧Bl V w')) (hne:fl≠hl) :
  Calls Tryz.prog 3 #[.agg #[.int .i64 W,.int .i64 H,.slice a zl ca,.slice c n cc],.slice ah hl hc] w fun e w'=>e=.returned (.bool true)∧Bl w w':=by
 have hne2:¬(fl:Int)=(hl:Int):=by omega
 go_enter Tryz.func3,Tryz.ntmps3
 go_upto_region 1 with fail
 refine Qr (fun W0 hW0=>?_)
 have hw0:Bl w W0:=by rw [hW0];exact Qb (Qc _)
 have x0:W0.cell? ⟨w.heap.size,0,none⟩=some (.int .i64 W):=by rw [hW0];simp [go_sem]
 have x1:W0.cell? ⟨w.heap.size,1,none⟩=some (.int .i64 H):=by rw [hW0];simp [go_sem]
 have x2:W0.cell? ⟨w.heap.size,2,none⟩=some (.slice a zl ca):=by rw [hW0];simp [go_sem]
 have x3:W0.cell? ⟨w.heap.size,3,none⟩=some (.slice c n cc):=by rw [hW0];simp [go_sem]
 clear hW0
 go_upto_region 2 with (first
  | (go_at_call 8;refine (CS.out _ hw0).mono ?_;rintro e w2 ⟨a',ca',b',cb',rfl,hz2,hk2,hf2,hb2⟩;have HF2:Hid (b'=none∨∃p o,b'=some ⟨p,o,none⟩):=hf2;have H2:Hid (Row w2 a' zs∧Row w2 b' ks∧Bl W0 w2∧Bl w w2):=⟨hz2,hk2,hb2,Qe hw0 hb2⟩;clear hz2 hk2 hb2 hf2)
  | (go_at_call 9;refine (CI.out _ H2.out.2.2.2).mono ?_;rintro e w3 ⟨a3,c3,rfl,hr3,hb3⟩;have H3:Hid (Row w3 a' zs∧Row w3 b' ks∧Row w3 a3 hs∧Bl W0 w3∧Bl w w3):=⟨H2.out.1.kept hb3,H2.out.2.1.kept hb3,hr3,Qe H2.out.2.2.1 hb3,Qe H2.out.2.2.2 hb3⟩;clear hr3 hb3)
  | (go_at_call 7;refine (CL.out _ a' b' a3 ca' cb' c3 H3.out.2.2.2.2 H3.out.1 H3.out.2.1 HF2.out H3.out.2.2.1).mono ?_;rintro e w4 ⟨rfl,hb4⟩;have H4:Hid (Bl W0 w4∧Bl w w4∧Bl w3 w4):=⟨Qe H3.out.2.2.2.1 hb4,Qe H3.out.2.2.2.2 hb4,hb4⟩;clear hb4))
 refine Qr (fun W5 hW5=>?_)
 obtain ⟨G,hG⟩:∃G,G=w4.heap.size:=⟨_,rfl⟩
 have s0:W5.cell? ⟨w.heap.size,0,none⟩=some (.int .i64 W):=by
  have h:=Qa H4.out.1 x0
  have hlt:w.heap.size<w4.heap.size:=bk (Qa H4.out.1 x0)
  rw [hW5]
  with_reducible repeat (refine Qj ?_ (by dsimp only;omega))
  exact Qh h
 have s1:W5.cell? ⟨w.heap.size,1,none⟩=some (.int .i64 H):=by
  have h:=Qa H4.out.1 x1
  have hlt:w.heap.size<w4.heap.size:=bk (Qa H4.out.1 x1)
  rw [hW5]
  with_reducible repeat (refine Qj ?_ (by dsimp only;omega))
  exact Qh h
 have s2:W5.cell? ⟨w.heap.size,2,none⟩=some (.slice a zl ca):=by
  have h:=Qa H4.out.1 x2
  have hlt:w.heap.size<w4.heap.size:=bk (Qa H4.out.1 x2)
  rw [hW5]
  with_reducible repeat (refine Qj ?_ (by dsimp only;omega))
  exact Qh h
 have s3:W5.cell? ⟨w.heap.size,3,none⟩=some (.slice c n cc):=by
  have h:=Qa H4.out.1 x3
  have hlt:w.heap.size<w4.heap.size:=bk (Qa H4.out.1 x3)
  rw [hW5]
  with_reducible repeat (refine Qj ?_ (by dsimp only;omega))
  exact Qh h
 have d0:W5.cell? ⟨G,0,none⟩=some (.int .i64 0):=by rw [hW5,hG];simp [go_sem]
 have d1:W5.cell? ⟨G,1,none⟩=some (.int .i64 0):=by rw [hW5,hG];simp [go_sem]
 have d2:W5.cell? ⟨G,2,none⟩=some (.slice none 0 0):=by rw [hW5,hG];simp [go_sem]
 have d3:W5.cell? ⟨G,3,none⟩=some (.slice none 0 0):=by rw [hW5,hG];simp [go_sem]
 have d4:W5.cell? ⟨G,4,none⟩=some (.slice none 0 0):=by rw [hW5,hG];simp [go_sem]
 have d5:W5.cell? ⟨G,5,none⟩=some (.slice none 0 0):=by rw [hW5,hG];simp [go_sem]
 have hw5:Bl w W5:=by
  have:=H4.out.2.1.size
  rw [hW5]
  with_reducible repeat (refine Ql ?_ ?_)
  all_goals first|exact Qb H4.out.2.1|(dsimp only;omega)
 have HB5:Hid (Bl w4 W5∧Bl w W5):=⟨by
  rw [hW5]
  with_reducible repeat (refine Ql ?_ ?_)
  all_goals first|exact Qb (Qc _)|(dsimp only;omega),hw5⟩
 have zS:w.heap.size<W5.heap.size:=bk s0
 have zG:G<W5.heap.size:=bk d0
 rw [←hG]
 clear hW5 hG hw5 x0 x1 x2 x3 hw0 CS CI CL
 go_wp2_with (first|(go_at_call 10;refine (CM.out _ HB5.out.2).mono ?_;rintro e w6 ⟨rfl,hb6⟩;have HB6:Hid (Bl w w6∧Bl w4 w6):=⟨Qe HB5.out.2 hb6,Qe HB5.out.1 hb6⟩;replace s0:=Qa hb6 s0;replace s1:=Qa hb6 s1;replace s2:=Qa hb6 s2;replace s3:=Qa hb6 s3;replace d0:=Qa hb6 d0;replace d1:=Qa hb6 d1;replace d2:=Qa hb6 d2;replace d3:=Qa hb6 d3;replace d4:=Qa hb6 d4;replace d5:=Qa hb6 d5;replace zS:=bk s0;replace zG:=bk d0;clear hb6)|(go_at_call 12;refine (CP.out _ HB6.out.1).mono ?_;rintro e w7 ⟨gp,rfl,hmr,hb7⟩;have HB7:Hid (Bl w w7∧MRow w7 gp nn M∧Bl w4 w7):=⟨Qe HB6.out.1 hb7,hmr,Qe HB6.out.2 hb7⟩;replace s0:=Qa hb7 s0;replace s1:=Qa hb7 s1;replace s2:=Qa hb7 s2;replace s3:=Qa hb7 s3;replace d0:=Qa hb7 d0;replace d1:=Qa hb7 d1;replace d2:=Qa hb7 d2;replace d3:=Qa hb7 d3;replace d4:=Qa hb7 d4;replace d5:=Qa hb7 d5;replace zS:=bk s0;replace zG:=bk d0;clear hb7 hmr)|(go_at_call 13;refine (CF.out _ HB7.out.1).mono ?_;rintro e w8 ⟨a8,c8,rfl,hb8⟩;have HB8:Hid (Bl w w8∧MRow w8 gp nn M∧Bl w4 w8):=⟨Qe HB7.out.1 hb8,HB7.out.2.1.kept hb8,Qe HB7.out.2.2 hb8⟩;replace s0:=Qa hb8 s0;replace s1:=Qa hb8 s1;replace s2:=Qa hb8 s2;replace s3:=Qa hb8 s3;replace d0:=Qa hb8 d0;replace d1:=Qa hb8 d1;replace d2:=Qa hb8 d2;replace d3:=Qa hb8 d3;replace d4:=Qa hb8 d4;replace d5:=Qa hb8 d5;replace zS:=bk s0;replace zG:=bk d0;clear hb8)|(go_at_call 11;refine (none_yes _).mono ?_;rintro e w9 ⟨rfl,hb9⟩;have HB9:Hid (Bl w w9):=Qe HB8.out.1 hb9;clear hb9))
 go_ret
 exact ⟨rfl,HB9.out⟩
theorem nodup_getD {hs:List Int} (h:∀i k,i<hs.length→k<i→hs.getD i 0≠hs.getD k 0):hs.Nodup:=by
 refine List.pairwise_iff_getElem.2 fun i j hi hj hij e=>?_
 refine h j i hj hij ?_
 rw [List.getD_eq_getElem?_getD,List.getD_eq_getElem?_getD,List.getElem?_eq_getElem hi,List.getElem?_eq_getElem hj]
 exact e.symm
theorem nodup_not {hs:List Int} (h:hs.Nodup) {i k:Nat} (hi:i<hs.length) (hk:k<i) (e:hs.getD i 0=hs.getD k 0):False:=by
 rw [List.getD_eq_getElem?_getD,List.getD_eq_getElem?_getD,List.getElem?_eq_getElem hi,List.getElem?_eq_getElem (by omega:k<hs.length)] at e
 have:=nodup_atH h hi (by omega:k<hs.length) e
 omega
theorem stackLays_twice (W H:Int) (a c:Option Addr) (zl ca n cc hl hc gh oh:Nat) (zs ks hs:List Int) (w:World) (nn:Nat) (M:Nat→M6) (CS:Hid (∀V:World,Bl w V→Calls Tryz.prog 8 #[.agg #[.int .i64 W,.int .i64 H,.slice a zl ca,.slice c n cc]] V fun e w'=>∃a' ca' b' cb',e=.returned (.agg #[.int .i64 W,.int .i64 H,.slice a' zl ca',.slice b' n cb'])∧Row w' a' zs∧Row w' b' ks∧(b'=none∨∃p o,b'=some ⟨p,o,none⟩)∧Bl V w')) (CI:Hid (∀V:World,Bl w V→Calls Tryz.prog 9 #[.slice (some ⟨gh,oh,none⟩) hl hc] V fun e w'=>∃a' c',e=.returned (.slice a' hl c')∧Row w' a' hs∧Bl V w')) (CL:Hid (∀(V:World) (a' b' a3:Option Addr) (ca' cb' c3:Nat),Bl w V→Row V a' zs→Row V b' ks→(b'=none∨∃p o,b'=some ⟨p,o,none⟩)→Row V a3 hs→Calls Tryz.prog 7 #[.agg #[.int .i64 W,.int .i64 H,.slice a' zl ca',.slice b' n cb'],.slice a3 hl c3] V fun e w'=>e=.returned (.tuple #[.agg #[.int .i64 0,.int .i64 0,.slice none 0 0,.slice none 0 0,.slice none 0 0,.slice none 0 0],.int .i64 6])∧Bl V w')) (CM:Hid (∀V:World,Bl w V→Calls Tryz.prog 10 #[.agg #[.int .i64 W,.int .i64 H,.slice a zl ca,.slice c n cc]] V fun e w'=>e=.returned (.bool true)∧Bl V w')) (CP:Hid (∀V:World,Bl w V→Calls Tryz.prog 12 #[.agg #[.int .i64 W,.int .i64 H,.slice a zl ca,.slice c n cc]] V fun e w'=>∃g,e=.returned (.tuple #[.slice (some ⟨g,0,none⟩) nn nn,.bool true])∧MRow w' g nn M∧Bl V w')) (CF:Hid (∀V:World,Bl w V→Calls Tryz.prog 13 #[.agg #[.int .i64 W,.int .i64 H,.slice a zl ca,.slice c n cc]] V fun e w'=>∃a' c',e=.returned (.slice a' hl c')∧Bl V w')) (hh:Row w (some ⟨gh,oh,none⟩) hs) (hln:hl=hs.length) (h256:hl≤256) (hnd:¬hs.Nodup) :
  Calls Tryz.prog 3 #[.agg #[.int .i64 W,.int .i64 H,.slice a zl ca,.slice c n cc],.slice (some ⟨gh,oh,none⟩) hl hc] w fun e w'=>e=.returned (.bool true)∧Bl w w':=by
 have HLN:Hid (hl=hs.length):=hln
 have HRH:Hid (Row w (some ⟨gh,oh,none⟩) hs):=hh
 have HND:Hid (¬hs.Nodup):=hnd
 clear hln hh hnd
 go_enter Tryz.func3,Tryz.ntmps3
 go_upto_region 1 with fail
 refine Qr (fun W0 hW0=>?_)
 have hw0:Bl w W0:=by rw [hW0];exact Qb (Qc _)
 have x0:W0.cell? ⟨w.heap.size,0,none⟩=some (.int .i64 W):=by rw [hW0];simp [go_sem]
 have x1:W0.cell? ⟨w.heap.size,1,none⟩=some (.int .i64 H):=by rw [hW0];simp [go_sem]
 have x2:W0.cell? ⟨w.heap.size,2,none⟩=some (.slice a zl ca):=by rw [hW0];simp [go_sem]
 have x3:W0.cell? ⟨w.heap.size,3,none⟩=some (.slice c n cc):=by rw [hW0];simp [go_sem]
 clear hW0
 go_upto_region 2 with (first
  | (go_at_call 8;refine (CS.out _ hw0).mono ?_;rintro e w2 ⟨a',ca',b',cb',rfl,hz2,hk2,hf2,hb2⟩;have HF2:Hid (b'=none∨∃p o,b'=some ⟨p,o,none⟩):=hf2;have H2:Hid (Row w2 a' zs∧Row w2 b' ks∧Bl W0 w2∧Bl w w2):=⟨hz2,hk2,hb2,Qe hw0 hb2⟩;clear hz2 hk2 hb2 hf2)
  | (go_at_call 9;refine (CI.out _ H2.out.2.2.2).mono ?_;rintro e w3 ⟨a3,c3,rfl,hr3,hb3⟩;have H3:Hid (Row w3 a' zs∧Row w3 b' ks∧Row w3 a3 hs∧Bl W0 w3∧Bl w w3):=⟨H2.out.1.kept hb3,H2.out.2.1.kept hb3,hr3,Qe H2.out.2.2.1 hb3,Qe H2.out.2.2.2 hb3⟩;clear hr3 hb3)
  | (go_at_call 7;refine (CL.out _ a' b' a3 ca' cb' c3 H3.out.2.2.2.2 H3.out.1 H3.out.2.1 HF2.out H3.out.2.2.1).mono ?_;rintro e w4 ⟨rfl,hb4⟩;have H4:Hid (Bl W0 w4∧Bl w w4∧Bl w3 w4):=⟨Qe H3.out.2.2.2.1 hb4,Qe H3.out.2.2.2.2 hb4,hb4⟩;clear hb4))
 refine Qr (fun W5 hW5=>?_)
 obtain ⟨G,hG⟩:∃G,G=w4.heap.size:=⟨_,rfl⟩
 have s0:W5.cell? ⟨w.heap.size,0,none⟩=some (.int .i64 W):=by
  have h:=Qa H4.out.1 x0
  have hlt:w.heap.size<w4.heap.size:=bk (Qa H4.out.1 x0)
  rw [hW5]
  with_reducible repeat (refine Qj ?_ (by dsimp only;omega))
  exact Qh h
 have s1:W5.cell? ⟨w.heap.size,1,none⟩=some (.int .i64 H):=by
  have h:=Qa H4.out.1 x1
  have hlt:w.heap.size<w4.heap.size:=bk (Qa H4.out.1 x1)
  rw [hW5]
  with_reducible repeat (refine Qj ?_ (by dsimp only;omega))
  exact Qh h
 have s2:W5.cell? ⟨w.heap.size,2,none⟩=some (.slice a zl ca):=by
  have h:=Qa H4.out.1 x2
  have hlt:w.heap.size<w4.heap.size:=bk (Qa H4.out.1 x2)
  rw [hW5]
  with_reducible repeat (refine Qj ?_ (by dsimp only;omega))
  exact Qh h
 have s3:W5.cell? ⟨w.heap.size,3,none⟩=some (.slice c n cc):=by
  have h:=Qa H4.out.1 x3
  have hlt:w.heap.size<w4.heap.size:=bk (Qa H4.out.1 x3)
  rw [hW5]
  with_reducible repeat (refine Qj ?_ (by dsimp only;omega))
  exact Qh h
 have d0:W5.cell? ⟨G,0,none⟩=some (.int .i64 0):=by rw [hW5,hG];simp [go_sem]
 have d1:W5.cell? ⟨G,1,none⟩=some (.int .i64 0):=by rw [hW5,hG];simp [go_sem]
 have d2:W5.cell? ⟨G,2,none⟩=some (.slice none 0 0):=by rw [hW5,hG];simp [go_sem]
 have d3:W5.cell? ⟨G,3,none⟩=some (.slice none 0 0):=by rw [hW5,hG];simp [go_sem]
 have d4:W5.cell? ⟨G,4,none⟩=some (.slice none 0 0):=by rw [hW5,hG];simp [go_sem]
 have d5:W5.cell? ⟨G,5,none⟩=some (.slice none 0 0):=by rw [hW5,hG];simp [go_sem]
 have hw5:Bl w W5:=by
  have:=H4.out.2.1.size
  rw [hW5]
  with_reducible repeat (refine Ql ?_ ?_)
  all_goals first|exact Qb H4.out.2.1|(dsimp only;omega)
 have HB5:Hid (Bl w4 W5∧Bl w W5):=⟨by
  rw [hW5]
  with_reducible repeat (refine Ql ?_ ?_)
  all_goals first|exact Qb (Qc _)|(dsimp only;omega),hw5⟩
 have zS:w.heap.size<W5.heap.size:=bk s0
 have zG:G<W5.heap.size:=bk d0
 rw [←hG]
 clear hW5 hG hw5 x0 x1 x2 x3 hw0 CS CI CL
 go_wp2_with (first|(go_at_call 10;refine (CM.out _ HB5.out.2).mono ?_;rintro e w6 ⟨rfl,hb6⟩;have HB6:Hid (Bl w w6∧Bl w4 w6):=⟨Qe HB5.out.2 hb6,Qe HB5.out.1 hb6⟩;replace s0:=Qa hb6 s0;replace s1:=Qa hb6 s1;replace s2:=Qa hb6 s2;replace s3:=Qa hb6 s3;replace d0:=Qa hb6 d0;replace d1:=Qa hb6 d1;replace d2:=Qa hb6 d2;replace d3:=Qa hb6 d3;replace d4:=Qa hb6 d4;replace d5:=Qa hb6 d5;replace zS:=bk s0;replace zG:=bk d0;clear hb6)|(go_at_call 12;refine (CP.out _ HB6.out.1).mono ?_;rintro e w7 ⟨gp,rfl,hmr,hb7⟩;have HB7:Hid (Bl w w7∧MRow w7 gp nn M∧Bl w4 w7):=⟨Qe HB6.out.1 hb7,hmr,Qe HB6.out.2 hb7⟩;replace s0:=Qa hb7 s0;replace s1:=Qa hb7 s1;replace s2:=Qa hb7 s2;replace s3:=Qa hb7 s3;replace d0:=Qa hb7 d0;replace d1:=Qa hb7 d1;replace d2:=Qa hb7 d2;replace d3:=Qa hb7 d3;replace d4:=Qa hb7 d4;replace d5:=Qa hb7 d5;replace zS:=bk s0;replace zG:=bk d0;clear hb7 hmr)|(go_at_call 13;refine (CF.out _ HB7.out.1).mono ?_;rintro e w8 ⟨a8,c8,rfl,hb8⟩;have HB8:Hid (Bl w w8∧MRow w8 gp nn M∧Bl w4 w8):=⟨Qe HB7.out.1 hb8,HB7.out.2.1.kept hb8,Qe HB7.out.2.2 hb8⟩;replace s0:=Qa hb8 s0;replace s1:=Qa hb8 s1;replace s2:=Qa hb8 s2;replace s3:=Qa hb8 s3;replace d0:=Qa hb8 d0;replace d1:=Qa hb8 d1;replace d2:=Qa hb8 d2;replace d3:=Qa hb8 d3;replace d4:=Qa hb8 d4;replace d5:=Qa hb8 d5;replace zS:=bk s0;replace zG:=bk d0;clear hb8))
 have HW:Hid (Row w8 (some ⟨gh,oh,none⟩) hs):=HRH.out.kept HB8.out.1
 obtain ⟨W8,hW8⟩:∃x,x=w8:=⟨_,rfl⟩
 subst hW8
 go_loopg [9] hl (fun gk s9 wx=>∃i:Nat,i≤hl∧gk=hl-i∧s9=.int .i64 (i:Int)∧(∀i' k',i'<i→k'<i'→hs.getD i' 0≠hs.getD k' 0)∧Bl W8 wx)
 case atStart=>exact ⟨0,by omega,rfl,rfl,fun i' k' h=>by omega,Qc _⟩
 case round =>
  obtain ⟨i,hi,rfl,rfl,hdi,hbx⟩:=hrel
  have HR:Hid ((∀i' k',i'<i→k'<i'→hs.getD i' 0≠hs.getD k' 0)∧Bl W8 wr):=⟨hdi,hbx⟩
  clear hdi hbx
  by_cases h1:i<hl
  ·have i1:(i:Int)<(hl:Int):=by omega
   have i0:(0:Int)≤(i:Int):=by omega
   go_wp2
   go_loopg [10] i (fun gk s10 wx=>∃k:Nat,k≤i∧gk=i-k∧s10=.int .i64 (k:Int)∧(∀k',k'<k→hs.getD i 0≠hs.getD k' 0)∧Bl W8 wx)
   case atStart=>exact ⟨0,by omega,rfl,rfl,fun k' h=>by omega,HR.out.2⟩
   case round =>
    obtain ⟨k,hk,rfl,rfl,hdk,hbx⟩:=hrel
    have HQ:Hid ((∀k',k'<k→hs.getD i 0≠hs.getD k' 0)∧Bl W8 wr):=⟨hdk,hbx⟩
    clear hdk hbx
    by_cases h2:k<i
    ·have k1:(k:Int)<(i:Int):=by omega
     have k0:(0:Int)≤(k:Int):=by omega
     have kl:(k:Int)<(hl:Int):=by omega
     have q1:=J0 (HW.out.kept HQ.out.2) (i:=i) (by rw [←HLN.out];exact h1)
     have q2:=J0 (HW.out.kept HQ.out.2) (i:=k) (by rw [←HLN.out];omega)
     obtain ⟨hI,hhI⟩:∃x,x=hs.getD i 0:=⟨_,rfl⟩
     obtain ⟨hK,hhK⟩:∃x,x=hs.getD k 0:=⟨_,rfl⟩
     rw [←hhI] at q1
     rw [←hhK] at q2
     have HH:Hid (hI=hs.getD i 0∧hK=hs.getD k 0):=⟨hhI,hhK⟩
     have zh:gh<wr.heap.size:=bk q1
     clear hhI hhK
     by_cases he:hI=hK
     ·have hd:decide (hI=hK)=true:=decide_eq_true he
      have e0:=Qa HQ.out.2 d0
      have e1:=Qa HQ.out.2 d1
      have e2:=Qa HQ.out.2 d2
      have e3:=Qa HQ.out.2 d3
      have e4:=Qa HQ.out.2 d4
      have e5:=Qa HQ.out.2 d5
      have kc:=Kin.cells wr
      have kn:Nonempty (Kin wr):=⟨⟨wr,Qc _⟩⟩
      go_upto_region 15 with fail
      refine Qg (by kernel_rfl) (by kernel_rfl) ?_
      repeat (go_big_quiet_step (fail))
      refine wpQuiet_nil ?_
      intro wq hw'
      obtain ⟨nq,hw''⟩:=hw'
      have hq:Bl wr wq:=hw'' ▸ nq.h
      clear hw'' nq kc kn q1 q2
      replace e0:=Qa hq e0
      replace e1:=Qa hq e1
      replace e2:=Qa hq e2
      replace e3:=Qa hq e3
      replace e4:=Qa hq e4
      replace e5:=Qa hq e5
      have zq:G<wq.heap.size:=bk e0
      have HZ:Hid (Bl w wq):=Qe (Qe HB8.out.1 HQ.out.2) hq
      go_wp2_with (go_at_call 11;refine (none_yes _).mono ?_;rintro e w9 ⟨rfl,hb9⟩;have HB9:Hid (Bl w w9):=Qe HZ.out hb9;clear hb9)
      go_ret
      exact ⟨rfl,HB9.out⟩
     ·have kc:=Kin.cells wr
      have kn:Nonempty (Kin wr):=⟨⟨wr,Qc _⟩⟩
      go_upto_region 15 with fail
      refine Qg (by kernel_rfl) (by kernel_rfl) ?_
      repeat (go_big_quiet_step (fail))
      refine wpQuiet_nil ?_
      intro wq hw'
      obtain ⟨nq,hw''⟩:=hw'
      have hq:Bl wr wq:=hw'' ▸ nq.h
      clear hw'' nq kc kn q1 q2
      go_wp2
      go_roundg (i-(k+1))
      case measure=>omega
      case rel =>
       refine ⟨k+1,by omega,rfl,by go_num,fun k' hk'=>?_,Qe HQ.out.2 hq⟩
       by_cases e:k'=k
       ·subst e
        rw [←HH.out.1,←HH.out.2]
        exact he
       ·exact HQ.out.1 k' (by omega)
    ·have k1:¬(k:Int)<(i:Int):=by omega
     go_wp2
     go_roundg (hl-(i+1))
     case measure=>omega
     case rel =>
      refine ⟨i+1,by omega,rfl,by go_num,fun i' k' hi' hk'=>?_,HQ.out.2⟩
      by_cases e:i'=i
      ·subst e
       exact HQ.out.1 k' (by omega)
      ·exact HR.out.1 i' k' (by omega) hk'
  ·have i1:¬(i:Int)<(hl:Int):=by omega
   obtain rfl:i=hl:=by omega
   exact absurd (nodup_getD (by rw [←HLN.out];exact HR.out.1)) HND.out
theorem stackLays_ok (W H:Int) (a c:Option Addr) (zl ca n cc hl hc gh oh:Nat) (zs ks hs:List Int) (w:World) (nn sl:Nat) (M:Nat→M6) (S:List ((Int×Int×Int)×List (Int×Int×Int))) (CS:Hid (∀V:World,Bl w V→Calls Tryz.prog 8 #[.agg #[.int .i64 W,.int .i64 H,.slice a zl ca,.slice c n cc]] V fun e w'=>∃a' ca' b' cb',e=.returned (.agg #[.int .i64 W,.int .i64 H,.slice a' zl ca',.slice b' n cb'])∧Row w' a' zs∧Row w' b' ks∧(b'=none∨∃p o,b'=some ⟨p,o,none⟩)∧Bl V w')) (CI:Hid (∀V:World,Bl w V→Calls Tryz.prog 9 #[.slice (some ⟨gh,oh,none⟩) hl hc] V fun e w'=>∃a' c',e=.returned (.slice a' hl c')∧Row w' a' hs∧Bl V w')) (CL:Hid (∀(V:World) (a' b' a3:Option Addr) (ca' cb' c3:Nat),Bl w V→Row V a' zs→Row V b' ks→(b'=none∨∃p o,b'=some ⟨p,o,none⟩)→Row V a3 hs→Calls Tryz.prog 7 #[.agg #[.int .i64 W,.int .i64 H,.slice a' zl ca',.slice b' n cb'],.slice a3 hl c3] V fun e w'=>∃a9 ca9 b9 cb9 g9 c9 t9 u9,e=.returned (.tuple #[.agg #[.int .i64 W,.int .i64 H,.slice a9 zl ca9,.slice b9 n cb9,.slice (some ⟨g9,0,none⟩) nn c9,.slice t9 sl u9],.int .i64 0])∧Row w' a9 zs∧Row w' b9 ks∧MRow w' g9 nn M∧SRow w' t9 S∧Bl V w')) (CM:Hid (∀V:World,Bl w V→Calls Tryz.prog 10 #[.agg #[.int .i64 W,.int .i64 H,.slice a zl ca,.slice c n cc]] V fun e w'=>e=.returned (.bool true)∧Bl V w')) (CP:Hid (∀V:World,Bl w V→Calls Tryz.prog 12 #[.agg #[.int .i64 W,.int .i64 H,.slice a zl ca,.slice c n cc]] V fun e w'=>∃g,e=.returned (.tuple #[.slice (some ⟨g,0,none⟩) nn nn,.bool true])∧MRow w' g nn M∧Bl V w')) (CF:Hid (∀V:World,Bl w V→Calls Tryz.prog 13 #[.agg #[.int .i64 W,.int .i64 H,.slice a zl ca,.slice c n cc]] V fun e w'=>∃a' c',e=.returned (.slice a' hl c')∧Bl V w')) (CY:Hid (∀(V:World) (g:Nat),Bl w V→MRow V g nn M→Calls Tryz.prog 15 #[.agg #[.int .i64 W,.int .i64 H,.slice a zl ca,.slice c n cc],.slice (some ⟨g,0,none⟩) nn nn,.slice (some ⟨gh,oh,none⟩) hl hc] V fun e w'=>∃a9 ca9 b9 cb9 g9 c9 t9 u9,e=.returned (.agg #[.int .i64 W,.int .i64 H,.slice a9 zl ca9,.slice b9 n cb9,.slice (some ⟨g9,0,none⟩) nn c9,.slice t9 sl u9])∧Row w' a9 zs∧Row w' b9 ks∧MRow w' g9 nn M∧SRow w' t9 S∧Bl V w')) (CE:Hid (∀(V:World) (a1 b1 a2 b2 t1 t2:Option Addr) (ca1 cb1 g1 c1 u1 ca2 cb2 g2 c2 u2:Nat),Row V a1 zs∧Row V b1 ks∧MRow V g1 nn M∧SRow V t1 S→Row V a2 zs∧Row V b2 ks∧MRow V g2 nn M∧SRow V t2 S→Calls Tryz.prog 14 #[.agg #[.int .i64 W,.int .i64 H,.slice a1 zl ca1,.slice b1 n cb1,.slice (some ⟨g1,0,none⟩) nn c1,.slice t1 sl u1],.agg #[.int .i64 W,.int .i64 H,.slice a2 zl ca2,.slice b2 n cb2,.slice (some ⟨g2,0,none⟩) nn c2,.slice t2 sl u2]] V fun e w'=>e=.returned (.bool true)∧Bl V w')) (hh:Row w (some ⟨gh,oh,none⟩) hs) (hln:hl=hs.length) (h256:hl≤256) (hnd:hs.Nodup) :
  Calls Tryz.prog 3 #[.agg #[.int .i64 W,.int .i64 H,.slice a zl ca,.slice c n cc],.slice (some ⟨gh,oh,none⟩) hl hc] w fun e w'=>e=.returned (.bool true)∧Bl w w':=by
 have HLN:Hid (hl=hs.length):=hln
 have HRH:Hid (Row w (some ⟨gh,oh,none⟩) hs):=hh
 have HND:Hid (hs.Nodup):=hnd
 clear hln hh hnd
 go_enter Tryz.func3,Tryz.ntmps3
 go_upto_region 1 with fail
 refine Qr (fun W0 hW0=>?_)
 have hw0:Bl w W0:=by rw [hW0];exact Qb (Qc _)
 have x0:W0.cell? ⟨w.heap.size,0,none⟩=some (.int .i64 W):=by rw [hW0];simp [go_sem]
 have x1:W0.cell? ⟨w.heap.size,1,none⟩=some (.int .i64 H):=by rw [hW0];simp [go_sem]
 have x2:W0.cell? ⟨w.heap.size,2,none⟩=some (.slice a zl ca):=by rw [hW0];simp [go_sem]
 have x3:W0.cell? ⟨w.heap.size,3,none⟩=some (.slice c n cc):=by rw [hW0];simp [go_sem]
 clear hW0
 go_upto_region 2 with (first
  | (go_at_call 8;refine (CS.out _ hw0).mono ?_;rintro e w2 ⟨a',ca',b',cb',rfl,hz2,hk2,hf2,hb2⟩;have HF2:Hid (b'=none∨∃p o,b'=some ⟨p,o,none⟩):=hf2;have H2:Hid (Row w2 a' zs∧Row w2 b' ks∧Bl W0 w2∧Bl w w2):=⟨hz2,hk2,hb2,Qe hw0 hb2⟩;clear hz2 hk2 hb2 hf2)
  | (go_at_call 9;refine (CI.out _ H2.out.2.2.2).mono ?_;rintro e w3 ⟨a3,c3,rfl,hr3,hb3⟩;have H3:Hid (Row w3 a' zs∧Row w3 b' ks∧Row w3 a3 hs∧Bl W0 w3∧Bl w w3):=⟨H2.out.1.kept hb3,H2.out.2.1.kept hb3,hr3,Qe H2.out.2.2.1 hb3,Qe H2.out.2.2.2 hb3⟩;clear hr3 hb3)
  | (go_at_call 7;refine (CL.out _ a' b' a3 ca' cb' c3 H3.out.2.2.2.2 H3.out.1 H3.out.2.1 HF2.out H3.out.2.2.1).mono ?_;rintro e w4 ⟨a9,ca9,b9,cb9,g9,c9,t9,u9,rfl,r1,r2,r3,r4,hb4⟩;have HS4:Hid (Row w4 a9 zs∧Row w4 b9 ks∧MRow w4 g9 nn M∧SRow w4 t9 S):=⟨r1,r2,r3,r4⟩;clear r1 r2 r3 r4;have H4:Hid (Bl W0 w4∧Bl w w4∧Bl w3 w4):=⟨Qe H3.out.2.2.2.1 hb4,Qe H3.out.2.2.2.2 hb4,hb4⟩;clear hb4))
 refine Qr (fun W5 hW5=>?_)
 obtain ⟨G,hG⟩:∃G,G=w4.heap.size:=⟨_,rfl⟩
 have s0:W5.cell? ⟨w.heap.size,0,none⟩=some (.int .i64 W):=by
  have h:=Qa H4.out.1 x0
  have hlt:w.heap.size<w4.heap.size:=bk (Qa H4.out.1 x0)
  rw [hW5]
  with_reducible repeat (refine Qj ?_ (by dsimp only;omega))
  exact Qh h
 have s1:W5.cell? ⟨w.heap.size,1,none⟩=some (.int .i64 H):=by
  have h:=Qa H4.out.1 x1
  have hlt:w.heap.size<w4.heap.size:=bk (Qa H4.out.1 x1)
  rw [hW5]
  with_reducible repeat (refine Qj ?_ (by dsimp only;omega))
  exact Qh h
 have s2:W5.cell? ⟨w.heap.size,2,none⟩=some (.slice a zl ca):=by
  have h:=Qa H4.out.1 x2
  have hlt:w.heap.size<w4.heap.size:=bk (Qa H4.out.1 x2)
  rw [hW5]
  with_reducible repeat (refine Qj ?_ (by dsimp only;omega))
  exact Qh h
 have s3:W5.cell? ⟨w.heap.size,3,none⟩=some (.slice c n cc):=by
  have h:=Qa H4.out.1 x3
  have hlt:w.heap.size<w4.heap.size:=bk (Qa H4.out.1 x3)
  rw [hW5]
  with_reducible repeat (refine Qj ?_ (by dsimp only;omega))
  exact Qh h
 have d0:W5.cell? ⟨G,0,none⟩=some (.int .i64 W):=by rw [hW5,hG];simp [go_sem]
 have d1:W5.cell? ⟨G,1,none⟩=some (.int .i64 H):=by rw [hW5,hG];simp [go_sem]
 have d2:W5.cell? ⟨G,2,none⟩=some (.slice a9 zl ca9):=by rw [hW5,hG];simp [go_sem]
 have d3:W5.cell? ⟨G,3,none⟩=some (.slice b9 n cb9):=by rw [hW5,hG];simp [go_sem]
 have d4:W5.cell? ⟨G,4,none⟩=some (.slice (some ⟨g9,0,none⟩) nn c9):=by rw [hW5,hG];simp [go_sem]
 have d5:W5.cell? ⟨G,5,none⟩=some (.slice t9 sl u9):=by rw [hW5,hG];simp [go_sem]
 have hw5:Bl w W5:=by
  have:=H4.out.2.1.size
  rw [hW5]
  with_reducible repeat (refine Ql ?_ ?_)
  all_goals first|exact Qb H4.out.2.1|(dsimp only;omega)
 have HB5:Hid (Bl w4 W5∧Bl w W5):=⟨by
  rw [hW5]
  with_reducible repeat (refine Ql ?_ ?_)
  all_goals first|exact Qb (Qc _)|(dsimp only;omega),hw5⟩
 have zS:w.heap.size<W5.heap.size:=bk s0
 have zG:G<W5.heap.size:=bk d0
 rw [←hG]
 clear hW5 hG hw5 x0 x1 x2 x3 hw0 CS CI CL
 go_wp2_with (first|(go_at_call 10;refine (CM.out _ HB5.out.2).mono ?_;rintro e w6 ⟨rfl,hb6⟩;have HB6:Hid (Bl w w6∧Bl w4 w6):=⟨Qe HB5.out.2 hb6,Qe HB5.out.1 hb6⟩;replace s0:=Qa hb6 s0;replace s1:=Qa hb6 s1;replace s2:=Qa hb6 s2;replace s3:=Qa hb6 s3;replace d0:=Qa hb6 d0;replace d1:=Qa hb6 d1;replace d2:=Qa hb6 d2;replace d3:=Qa hb6 d3;replace d4:=Qa hb6 d4;replace d5:=Qa hb6 d5;replace zS:=bk s0;replace zG:=bk d0;clear hb6)|(go_at_call 12;refine (CP.out _ HB6.out.1).mono ?_;rintro e w7 ⟨gp,rfl,hmr,hb7⟩;have HB7:Hid (Bl w w7∧MRow w7 gp nn M∧Bl w4 w7):=⟨Qe HB6.out.1 hb7,hmr,Qe HB6.out.2 hb7⟩;replace s0:=Qa hb7 s0;replace s1:=Qa hb7 s1;replace s2:=Qa hb7 s2;replace s3:=Qa hb7 s3;replace d0:=Qa hb7 d0;replace d1:=Qa hb7 d1;replace d2:=Qa hb7 d2;replace d3:=Qa hb7 d3;replace d4:=Qa hb7 d4;replace d5:=Qa hb7 d5;replace zS:=bk s0;replace zG:=bk d0;clear hb7 hmr)|(go_at_call 13;refine (CF.out _ HB7.out.1).mono ?_;rintro e w8 ⟨a8,c8,rfl,hb8⟩;have HB8:Hid (Bl w w8∧MRow w8 gp nn M∧Bl w4 w8):=⟨Qe HB7.out.1 hb8,HB7.out.2.1.kept hb8,Qe HB7.out.2.2 hb8⟩;replace s0:=Qa hb8 s0;replace s1:=Qa hb8 s1;replace s2:=Qa hb8 s2;replace s3:=Qa hb8 s3;replace d0:=Qa hb8 d0;replace d1:=Qa hb8 d1;replace d2:=Qa hb8 d2;replace d3:=Qa hb8 d3;replace d4:=Qa hb8 d4;replace d5:=Qa hb8 d5;replace zS:=bk s0;replace zG:=bk d0;clear hb8))
 have HW:Hid (Row w8 (some ⟨gh,oh,none⟩) hs):=HRH.out.kept HB8.out.1
 obtain ⟨W8,hW8⟩:∃x,x=w8:=⟨_,rfl⟩
 subst hW8
 go_loopg [9] hl (fun gk s9 wx=>∃i:Nat,i≤hl∧gk=hl-i∧s9=.int .i64 (i:Int)∧(∀i' k',i'<i→k'<i'→hs.getD i' 0≠hs.getD k' 0)∧Bl W8 wx)
 case atStart=>exact ⟨0,by omega,rfl,rfl,fun i' k' h=>by omega,Qc _⟩
 case round =>
  obtain ⟨i,hi,rfl,rfl,hdi,hbx⟩:=hrel
  have HR:Hid ((∀i' k',i'<i→k'<i'→hs.getD i' 0≠hs.getD k' 0)∧Bl W8 wr):=⟨hdi,hbx⟩
  clear hdi hbx
  by_cases h1:i<hl
  ·have i1:(i:Int)<(hl:Int):=by omega
   have i0:(0:Int)≤(i:Int):=by omega
   go_wp2
   go_loopg [10] i (fun gk s10 wx=>∃k:Nat,k≤i∧gk=i-k∧s10=.int .i64 (k:Int)∧(∀k',k'<k→hs.getD i 0≠hs.getD k' 0)∧Bl W8 wx)
   case atStart=>exact ⟨0,by omega,rfl,rfl,fun k' h=>by omega,HR.out.2⟩
   case round =>
    obtain ⟨k,hk,rfl,rfl,hdk,hbx⟩:=hrel
    have HQ:Hid ((∀k',k'<k→hs.getD i 0≠hs.getD k' 0)∧Bl W8 wr):=⟨hdk,hbx⟩
    clear hdk hbx
    by_cases h2:k<i
    ·have k1:(k:Int)<(i:Int):=by omega
     have k0:(0:Int)≤(k:Int):=by omega
     have kl:(k:Int)<(hl:Int):=by omega
     have q1:=J0 (HW.out.kept HQ.out.2) (i:=i) (by rw [←HLN.out];exact h1)
     have q2:=J0 (HW.out.kept HQ.out.2) (i:=k) (by rw [←HLN.out];omega)
     obtain ⟨hI,hhI⟩:∃x,x=hs.getD i 0:=⟨_,rfl⟩
     obtain ⟨hK,hhK⟩:∃x,x=hs.getD k 0:=⟨_,rfl⟩
     rw [←hhI] at q1
     rw [←hhK] at q2
     have HH:Hid (hI=hs.getD i 0∧hK=hs.getD k 0):=⟨hhI,hhK⟩
     have zh:gh<wr.heap.size:=bk q1
     clear hhI hhK
     by_cases he:hI=hK
     ·exact absurd he (fun e=>nodup_not HND.out (i:=i) (k:=k) (by rw [←HLN.out];exact h1) h2 (by rw [←HH.out.1,←HH.out.2];exact e))
     ·have kc:=Kin.cells wr
      have kn:Nonempty (Kin wr):=⟨⟨wr,Qc _⟩⟩
      go_upto_region 15 with fail
      refine Qg (by kernel_rfl) (by kernel_rfl) ?_
      repeat (go_big_quiet_step (fail))
      refine wpQuiet_nil ?_
      intro wq hw'
      obtain ⟨nq,hw''⟩:=hw'
      have hq:Bl wr wq:=hw'' ▸ nq.h
      clear hw'' nq kc kn q1 q2
      go_wp2
      go_roundg (i-(k+1))
      case measure=>omega
      case rel =>
       refine ⟨k+1,by omega,rfl,by go_num,fun k' hk'=>?_,Qe HQ.out.2 hq⟩
       by_cases e:k'=k
       ·subst e
        rw [←HH.out.1,←HH.out.2]
        exact he
       ·exact HQ.out.1 k' (by omega)
    ·have k1:¬(k:Int)<(i:Int):=by omega
     go_wp2
     go_roundg (hl-(i+1))
     case measure=>omega
     case rel =>
      refine ⟨i+1,by omega,rfl,by go_num,fun i' k' hi' hk'=>?_,HQ.out.2⟩
      by_cases e:i'=i
      ·subst e
       exact HQ.out.1 k' (by omega)
      ·exact HR.out.1 i' k' (by omega) hk'
  ·have i1:¬(i:Int)<(hl:Int):=by omega
   obtain rfl:i=hl:=by omega
   have y0:=Qa HR.out.2 s0
   have y1:=Qa HR.out.2 s1
   have y2:=Qa HR.out.2 s2
   have y3:=Qa HR.out.2 s3
   have e0:=Qa HR.out.2 d0
   have e1:=Qa HR.out.2 d1
   have e2:=Qa HR.out.2 d2
   have e3:=Qa HR.out.2 d3
   have e4:=Qa HR.out.2 d4
   have e5:=Qa HR.out.2 d5
   have zq:G<wr.heap.size:=bk e0
   have zp:w.heap.size<wr.heap.size:=bk y0
   have HZ:Hid (Bl w wr∧MRow wr gp nn M∧Bl w4 wr):=⟨Qe HB8.out.1 HR.out.2,HB8.out.2.1.kept HR.out.2,Qe HB8.out.2.2 HR.out.2⟩
   clear s0 s1 s2 s3 d0 d1 d2 d3 d4 d5 zS zG CM CP CF
   go_upto_region 17 with fail
   go_region_held3 (fun w'=>w'.cell? ⟨w.heap.size,0,none⟩=some (.int .i64 W)∧w'.cell? ⟨w.heap.size,1,none⟩=some (.int .i64 H)∧w'.cell? ⟨w.heap.size,2,none⟩=some (.slice a zl ca)∧w'.cell? ⟨w.heap.size,3,none⟩=some (.slice c n cc)∧w'.cell? ⟨G,0,none⟩=some (.int .i64 W)∧w'.cell? ⟨G,1,none⟩=some (.int .i64 H)∧w'.cell? ⟨G,2,none⟩=some (.slice a9 zl ca9)∧w'.cell? ⟨G,3,none⟩=some (.slice b9 n cb9)∧w'.cell? ⟨G,4,none⟩=some (.slice (some ⟨g9,0,none⟩) nn c9)∧w'.cell? ⟨G,5,none⟩=some (.slice t9 sl u9))
    ((refine ⟨?_,?_,?_,?_,?_,?_,?_,?_,?_,?_⟩<;>(with_reducible repeat (first|assumption|refine Qi ?_|refine Qa hb10 ?_|refine Qa hb11 ?_))))
    (first
     | (go_at_call 15;refine (CY.out _ gp (Qe HZ.out.1 (by with_reducible repeat (first | exact Qc _ | refine Qf ?_))) (HZ.out.2.1.kept (by with_reducible repeat (first | exact Qc _ | refine Qf ?_)))).mono ?_;rintro e w10 ⟨a10,ca10,b10,cb10,g10,c10,t10,u10,rfl,r1,r2,r3,r4,hb10⟩;have HA:Hid (Row w10 a10 zs∧Row w10 b10 ks∧MRow w10 g10 nn M∧SRow w10 t10 S):=⟨r1,r2,r3,r4⟩;have HQ10:Hid (Bl wr w10):=Qe (by with_reducible repeat (first | exact Qc _ | refine Qf ?_)) hb10;have HB10:Hid (Bl w4 w10∧Bl w w10):=⟨Qe HZ.out.2.2 HQ10.out,Qe HZ.out.1 HQ10.out⟩;clear r1 r2 r3 r4)
     | (go_at_call 14;refine (CE.out _ a9 b9 a10 b10 t9 t10 ca9 cb9 g9 c9 u9 ca10 cb10 g10 c10 u10 ⟨HS4.out.1.kept (Qe HB10.out.1 (by with_reducible repeat (first | exact Qc _ | refine Qf ?_))),HS4.out.2.1.kept (Qe HB10.out.1 (by with_reducible repeat (first | exact Qc _ | refine Qf ?_))),HS4.out.2.2.1.kept (Qe HB10.out.1 (by with_reducible repeat (first | exact Qc _ | refine Qf ?_))),HS4.out.2.2.2.kept (Qe HB10.out.1 (by with_reducible repeat (first | exact Qc _ | refine Qf ?_)))⟩ ⟨HA.out.1.kept (by with_reducible repeat (first | exact Qc _ | refine Qf ?_)),HA.out.2.1.kept (by with_reducible repeat (first | exact Qc _ | refine Qf ?_)),HA.out.2.2.1.kept (by with_reducible repeat (first | exact Qc _ | refine Qf ?_)),HA.out.2.2.2.kept (by with_reducible repeat (first | exact Qc _ | refine Qf ?_))⟩).mono ?_;rintro e w11 ⟨rfl,hb11⟩;have HB11:Hid (Bl w w11):=Qe (Qe HB10.out.2 (by with_reducible repeat (first | exact Qc _ | refine Qf ?_))) hb11))
   all_goals
    go_wp2
    go_ret
    exact ⟨rfl,by with_reducible repeat (first|exact HB11.out|refine Qf ?_)⟩
end Go.Proofs.YtgpjaecgkkgehaaGreatDoor
