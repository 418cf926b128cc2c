/- A part of the proof of foldFlat_holds. -/
import Derived.Test.YtgpjaecgkkgehaaGreatDoorQfbj
import Derived.Test.YtgpjaecgkkgehaaGreatDoorQfat
import Derived.Test.YtgpjaecgkkgehaaGreatDoorQfaf
import Derived.Test.YtgpjaecgkkgehaaGreatDoorQfbd
import Derived.Test.YtgpjaecgkkgehaaGreatDoorQfam
import Derived.Test.YtgpjaecgkkgehaaGreatDoorQfao
import Derived.Sort.Lot0
import Derived.Sort.LotA
namespace Go.Proofs.YtgpjaecgkkgehaaGreatDoor
open Go.RowKit Go.ChangeMaps
theorem facesCl_any (w:World) (pb n cc ra rk:Nat) (ad:Option Addr) (kd:Int×Int×Int×Int→Int) (nr q0 q1 q2 q3 qt:Int) (hK:KL w rk kd) (p0:w.cell? ⟨pb,0,none⟩=some (.slice ad n cc)) (p1:w.cell? ⟨pb,1,none⟩=some (.map (some ra))) (p2:w.cell? ⟨pb,2,none⟩=some (.map (some rk))) :
  Calls Tryz.prog 67 #[.int .i64 nr,.agg #[.int .i64 q0,.int .i64 q1,.int .i64 q2,.int .i64 q3,.int .i64 qt],.pointer (some ⟨pb,0,none⟩)] w fun e w'=>e=.returned (.bool (decide (kd (q0,q1,q2,q3)=0)))∧Below w.heap.size w w':=by
 have CK:Hid (∀ W':World,Below w.heap.size w W'→Calls Tryz.prog 68 #[.agg #[.slice ad n cc,.map (some ra),.map (some rk)],.agg #[.int .i64 q0,.int .i64 q1,.int .i64 q2,.int .i64 q3]] W' fun e w'=>e=.returned (.int .i64 (kd (q0,q1,q2,q3)))∧Below W'.heap.size W' w'):=fun W' hW'=>kind_any W' ad n cc ra rk kd q0 q1 q2 q3 (hK.kept hW')
 have zp:pb<w.heap.size:=World.block_lt_of_cell? _ _ p0
 clear hK
 obtain ⟨z,hz⟩:∃ z,z=kd (q0,q1,q2,q3):=⟨_,rfl⟩
 rw [← hz] at CK ⊢
 clear hz
 go_enter Tryz.func67,Tryz.ntmps67
 go_wp2_with (go_at_call 68;refine (CK.out _ (by with_reducible exact bl_alloc (bl_refl _))).mono ?_;rintro e w2 ⟨rfl,hb⟩;have HB:Hid (Below w.heap.size w w2):=bl_via (bl_alloc (bl_refl _)) hb;clear hb)
 exact bodyPost_ret (v:=.bool (decide (z=0))) (by simp [results,Tryz.results67,go_sem];rw [Bool.eq_iff_iff];simp) rfl ⟨rfl,HB.out⟩
set_option maxRecDepth 100000 in
set_option maxHeartbeats 3200000 in
theorem pfaces_any (w:World) (cc ra rk:Nat) (ad:Option Addr) (L:List (Int×Int×Int)) (kd:Int×Int×Int×Int→Int) (hs:Steps w) (hPA:PA w ad ra L) (hK:KL w rk kd) (hL:L.length≤300) (hnd:L.Nodup) (hbd:∀ t∈L,(0≤t.1∧t.1≤8)∧(0≤t.2.1∧t.2.1≤8)∧(0≤t.2.2∧t.2.2≤3)) :
  Calls Tryz.prog 29 #[.agg #[.slice ad L.length cc,.map (some ra),.map (some rk)]] w fun e w'=>∃ g part,e=.returned (.slice (some ⟨g,0,none⟩) L.length L.length)∧ZRow w' g L.length part∧PartsOk (fun e=>decide (kd e=0)) L part∧w.heap.size≤g∧Below w.heap.size w w':=by
 have CP:Hid (∀ W':World,Below w.heap.size w W'→W'.cell? ⟨w.heap.size,0,none⟩=some (.slice ad L.length cc)→W'.cell? ⟨w.heap.size,1,none⟩=some (.map (some ra))→W'.cell? ⟨w.heap.size,2,none⟩=some (.map (some rk))→Calls Tryz.prog 54 #[.agg #[.slice ad L.length cc,.map (some ra),.map (some rk)],.func (.func 67) #[] #[.pointer (some ⟨w.heap.size,0,none⟩)]] W' fun e w'=>∃ g part,e=.returned (.slice (some ⟨g,0,none⟩) L.length L.length)∧ZRow w' g L.length part∧PartsOk (fun e=>decide (kd e=0)) L part∧W'.heap.size≤g∧Below W'.heap.size W' w'):=fun W' hW' p0 p1 p2 =>
  parts_faces W' cc ra rk ad L w.heap.size _ (hs.kept hW') (hPA.kept hW') hL hnd hbd (fun nr q0 q1 q2 q3 qt W2 h2=>facesCl_any W2 w.heap.size L.length cc ra rk ad kd nr q0 q1 q2 q3 qt (hK.kept (bl_via hW' h2)) (cl_kept h2 p0) (cl_kept h2 p1) (cl_kept h2 p2))
 clear hs hPA hK hnd hbd
 go_enter Tryz.func29,Tryz.ntmps29
 go_wp2_with (go_at_call 54;refine (CP.out _ (by with_reducible exact bl_alloc (bl_refl _)) (by simp [go_sem]) (by simp [go_sem]) (by simp [go_sem])).mono ?_;rintro e w1 ⟨g,part,rfl,hZ,hPO,hg,hb⟩;have HW:Hid (ZRow w1 g L.length part∧PartsOk (fun e=>decide (kd e=0)) L part∧w.heap.size≤g∧Below w.heap.size w w1):=⟨hZ,hPO,Nat.le_trans (by simp) hg,bl_via (bl_alloc (bl_refl _)) hb⟩;clear hZ hPO hg hb)
 go_ret
 exact ⟨g,part,rfl,HW.out.1,HW.out.2.1,HW.out.2.2.1,HW.out.2.2.2⟩
open Go.RowKit
structure Ordr (w:World) (bh bf gh oh ch gf of_ cf:Nat) (hs:List Int) (fs:List Nat):Prop where
 h:w.cell? ⟨bh,0,none⟩=some (.slice (some ⟨gh,oh,none⟩) hs.length ch)
 f:w.cell? ⟨bf,0,none⟩=some (.slice (some ⟨gf,of_,none⟩) fs.length cf)
 hr:Row w (some ⟨gh,oh,none⟩) hs
 fr:NRow w gf of_ fs
theorem Ordr.kept {w w':World} {bh bf gh oh ch gf of_ cf:Nat} {hs:List Int} {fs:List Nat} (o:Ordr w bh bf gh oh ch gf of_ cf hs fs) (hb:Below w.heap.size w w'):Ordr w' bh bf gh oh ch gf of_ cf hs fs:=⟨cl_kept hb o.h,cl_kept hb o.f,o.hr.kept hb,o.fr.kept hb⟩
def hgt (hs:List Int) (fs:List Nat) (a:Nat):Int:=hs.getD (fs.getD a 0) 0
theorem row_get {w:World} {g o:Nat} {hs:List Int} (h:Row w (some ⟨g,o,none⟩) hs) {i:Nat} (hi:i<hs.length):w.cell? ⟨g,o+i,none⟩=some (.int .i64 (hs.getD i 0)):=by
 obtain ⟨b,off,e,hc⟩:=h i hi
 cases e
 rw [hc,List.getD_eq_getElem?_getD,List.getElem?_eq_getElem hi]
 rfl
set_option maxRecDepth 100000 in
set_option maxHeartbeats 1600000 in
theorem above_any (w:World) (bh bf gh oh ch gf of_ cf a b:Nat) (hs:List Int) (fs:List Nat) (o:Ordr w bh bf gh oh ch gf of_ cf hs fs) (ha:a<fs.length) (hb:b<fs.length) (hf:∀ j∈fs,j<hs.length) (_h1:fs.length≤300) (_h2:hs.length≤300) :
  Calls Tryz.prog 32 #[.int .i64 (a:Int),.int .i64 (b:Int),.pointer (some ⟨bh,0,none⟩),.pointer (some ⟨bf,0,none⟩)] w fun e w'=>e=.returned (.bool (decide (hgt hs fs b<hgt hs fs a)))∧Below w.heap.size w w':=by
 have p0:=o.h
 have p1:=o.f
 have ra:=o.fr a ha
 have rb:=o.fr b hb
 have ja:=hf fs[a] (List.getElem_mem ha)
 have jb:=hf fs[b] (List.getElem_mem hb)
 have ca:=row_get o.hr ja
 have cb:=row_get o.hr jb
 have ea:hgt hs fs a=hs.getD fs[a] 0:=by
  unfold hgt
  rw [List.getD_eq_getElem?_getD (l:=fs),List.getElem?_eq_getElem ha]
  rfl
 have eb:hgt hs fs b=hs.getD fs[b] 0:=by
  unfold hgt
  rw [List.getD_eq_getElem?_getD (l:=fs),List.getElem?_eq_getElem hb]
  rfl
 rw [ea,eb]
 obtain ⟨x,hx⟩:∃ x,x=fs[a]:=⟨_,rfl⟩
 obtain ⟨y,hy⟩:∃ y,y=fs[b]:=⟨_,rfl⟩
 rw [← hx] at ra ja ca ⊢
 rw [← hy] at rb jb cb ⊢
 obtain ⟨u,hu⟩:∃ u,u=hs.getD x 0:=⟨_,rfl⟩
 obtain ⟨v,hv⟩:∃ v,v=hs.getD y 0:=⟨_,rfl⟩
 rw [← hu] at ca ⊢
 rw [← hv] at cb ⊢
 have i1:(a:Int)<(fs.length:Int):=by omega
 have i2:(b:Int)<(fs.length:Int):=by omega
 have i3:(x:Int)<(hs.length:Int):=by omega
 have i4:(y:Int)<(hs.length:Int):=by omega
 have k1:(0:Int)≤(a:Int):=by omega
 have k2:(0:Int)≤(b:Int):=by omega
 have k3:(0:Int)≤(x:Int):=by omega
 have k4:(0:Int)≤(y:Int):=by omega
 have z0:bh<w.heap.size:=World.block_lt_of_cell? _ _ p0
 have z1:bf<w.heap.size:=World.block_lt_of_cell? _ _ p1
 have z2:gf<w.heap.size:=World.block_lt_of_cell? _ _ ra
 have z3:gh<w.heap.size:=World.block_lt_of_cell? _ _ ca
 clear o hf hx hy hu hv ea eb
 go_enter Tryz.func32,Tryz.ntmps32
 go_wp2
 have kc:=Kin.cells w
 have kn:Nonempty (Kin w):=⟨⟨w,bl_refl _⟩⟩
 refine wp_region_kin (by kernel_rfl) (by kernel_rfl) ?_
 repeat (go_big_quiet_step (fail))
 refine wpQuiet_nil ?_
 intro wq hw'
 obtain ⟨nq,hw''⟩:=hw'
 have hq:Below w.heap.size w wq:=hw'' ▸ nq.h
 clear hw'' nq kc kn p0 p1 ra rb ca cb
 go_wp2
 go_ret
 exact ⟨rfl,hq⟩
def cmpN (hs:List Int) (fs:List Nat) (a b:Nat):Int:=if hgt hs fs a<hgt hs fs b then -1 else if hgt hs fs b<hgt hs fs a then 1 else 0
set_option maxRecDepth 100000 in
set_option maxHeartbeats 1600000 in
theorem orderCompare_any (w:World) (bh bf gh oh ch gf of_ cf a b:Nat) (hs:List Int) (fs:List Nat) (o:Ordr w bh bf gh oh ch gf of_ cf hs fs) (ha:a<fs.length) (hb:b<fs.length) (hf:∀ j∈fs,j<hs.length) (h1:fs.length≤300) (h2:hs.length≤300) :
  Calls Tryz.prog 111 #[.func (.func 32) #[] #[.pointer (some ⟨bh,0,none⟩),.pointer (some ⟨bf,0,none⟩)],.int .i64 (a:Int),.int .i64 (b:Int)] w fun e w'=>e=.returned (.int .i64 (cmpN hs fs a b))∧Below w.heap.size w w':=by
 have C1:Hid (∀ W:World,Below w.heap.size w W→Calls Tryz.prog 32 #[.int .i64 (b:Int),.int .i64 (a:Int),.pointer (some ⟨bh,0,none⟩),.pointer (some ⟨bf,0,none⟩)] W fun e w'=>e=.returned (.bool (decide (hgt hs fs a<hgt hs fs b)))∧Below W.heap.size W w'):=fun W hW=>above_any W bh bf gh oh ch gf of_ cf b a hs fs (o.kept hW) hb ha hf h1 h2
 have C2:Hid (∀ W:World,Below w.heap.size w W→Calls Tryz.prog 32 #[.int .i64 (a:Int),.int .i64 (b:Int),.pointer (some ⟨bh,0,none⟩),.pointer (some ⟨bf,0,none⟩)] W fun e w'=>e=.returned (.bool (decide (hgt hs fs b<hgt hs fs a)))∧Below W.heap.size W w'):=fun W hW=>above_any W bh bf gh oh ch gf of_ cf a b hs fs (o.kept hW) ha hb hf h1 h2
 have HE:Hid (cmpN hs fs a b=if decide (hgt hs fs a<hgt hs fs b)=true then -1 else if decide (hgt hs fs b<hgt hs fs a)=true then 1 else 0):=by
  have:cmpN hs fs a b=if decide (hgt hs fs a<hgt hs fs b)=true then -1 else if decide (hgt hs fs b<hgt hs fs a)=true then 1 else 0:=by simp [cmpN]
  exact this
 obtain ⟨r,hr⟩:∃ r,r=cmpN hs fs a b:=⟨_,rfl⟩
 obtain ⟨p,hp⟩:∃ p,p=decide (hgt hs fs a<hgt hs fs b):=⟨_,rfl⟩
 obtain ⟨q,hq⟩:∃ q,q=decide (hgt hs fs b<hgt hs fs a):=⟨_,rfl⟩
 rw [← hp] at C1 HE
 rw [← hq] at C2 HE
 rw [← hr] at HE ⊢
 clear hp hq hr o hf ha hb h1 h2
 cases p
 ·cases q
  ·have HR:Hid (r=0):=HE.out
   clear HE
   go_enter Tryz.func111,Tryz.ntmps111
   go_wp2_with (first
    | (go_at_call 32;refine (C1.out _ (bl_refl _)).mono ?_;rintro e w1 ⟨rfl,hb1⟩;have HB1:Hid (Below w.heap.size w w1):=hb1;clear hb1 C1)
    | (go_at_call 32;refine (C2.out _ HB1.out).mono ?_;rintro e w2 ⟨rfl,hb2⟩;have HB2:Hid (Below w.heap.size w w2):=bl_via HB1.out hb2;clear hb2))
   go_ret
   exact ⟨ret_int HR.out.symm,HB2.out⟩
  ·have HR:Hid (r=1):=HE.out
   clear HE
   go_enter Tryz.func111,Tryz.ntmps111
   go_wp2_with (first
    | (go_at_call 32;refine (C1.out _ (bl_refl _)).mono ?_;rintro e w1 ⟨rfl,hb1⟩;have HB1:Hid (Below w.heap.size w w1):=hb1;clear hb1 C1)
    | (go_at_call 32;refine (C2.out _ HB1.out).mono ?_;rintro e w2 ⟨rfl,hb2⟩;have HB2:Hid (Below w.heap.size w w2):=bl_via HB1.out hb2;clear hb2))
   go_ret
   exact ⟨ret_int HR.out.symm,HB2.out⟩
 ·have HR:Hid (r=-1):=HE.out
  clear HE
  go_enter Tryz.func111,Tryz.ntmps111
  go_wp2_with (go_at_call 32;refine (C1.out _ (bl_refl _)).mono ?_;rintro e w1 ⟨rfl,hb1⟩;have HB1:Hid (Below w.heap.size w w1):=hb1;clear hb1)
  go_ret
  exact ⟨ret_int HR.out.symm,HB1.out⟩
open Go.RowKit
structure SrtW (w wx:World) (g o:Nat) (d:Array Nat):Prop where
 row:∀ j,j<d.size→wx.cell? ⟨g,o+j,none⟩=some (.int .i64 ((d[j]! : Nat):Int))∧wx.frozen? ⟨g,o+j,none⟩=false
 gr:w.grownBy wx (some g)
 lt:g<wx.heap.size
theorem SrtW.kept {w wx w':World} {g o:Nat} {d:Array Nat} (h:SrtW w wx g o d) (hb:Below wx.heap.size wx w'):SrtW w w' g o d :=
 ⟨fun j hj=>⟨cl_kept hb (h.row j hj).1,(hb.frozen h.lt).trans (h.row j hj).2⟩,gb_then h.gr (by
  have:=bl_grown hb
  exact ⟨this.os,this.tape,this.output,this.size,fun k hk _=>this.block k hk (by simp)⟩),Nat.lt_of_lt_of_le h.lt hb.size⟩
theorem SrtW.swap {w wx:World} {g o:Nat} {d:Array Nat} (h:SrtW w wx g o d) {i j:Nat} (hi:i<d.size) (hj:j<d.size) (hij:i≠j):SrtW w ((wx.setCell ⟨g,o+i,none⟩ (.int .i64 ((d[j]! : Nat):Int))).setCell ⟨g,o+j,none⟩ (.int .i64 ((d[i]! : Nat):Int))) g o (Sort.swp d i j):=by
 have g1:=grown_cell wx g (o+i) (.int .i64 ((d[j]! : Nat):Int))
 have g2:=grown_cell (wx.setCell ⟨g,o+i,none⟩ (.int .i64 ((d[j]! : Nat):Int))) g (o+j) (.int .i64 ((d[i]! : Nat):Int))
 refine ⟨fun k hk=>?_,gb_then h.gr (gb_then g1 g2),Nat.lt_of_lt_of_le h.lt (Nat.le_trans g1.size g2.size)⟩
 rw [Sort.size_swp] at hk
 obtain ⟨r1,r2⟩:=h.row k hk
 obtain ⟨q1,_⟩:=h.row i hi
 obtain ⟨p1,_⟩:=h.row j hj
 constructor
 ·have e:=Sort.swp_get d hi hj k
  rw [e]
  by_cases e1:k=j
  ·rw [if_pos e1,e1]
   exact st_same (st_else p1 (by omega))
  ·rw [if_neg e1]
   by_cases e2:k=i
   ·rw [if_pos e2,e2]
    exact st_else (st_same q1) (by omega)
   ·rw [if_neg e2]
    exact st_else (st_else r1 (by omega)) (by omega)
 ·simp [go_sem,r2]
def CmpF (w:World) (g N:Nat) (rv:Value) (cf:Nat→Nat→Int):Prop := ∀ wx:World,w.grownBy wx (some g)→∀ x y:Nat,x<N→y<N→Calls Tryz.prog 111 #[rv,.int .i64 (x:Int),.int .i64 (y:Int)] wx fun e w'=>e=.returned (.int .i64 (cf x y))∧Below wx.heap.size wx w'
theorem swp_lt {d:Array Nat} {N i j:Nat} (h:∀ k,k<d.size→d[k]! < N) (hi:i<d.size) (hj:j<d.size):∀ k,k<(Sort.swp d i j).size→(Sort.swp d i j)[k]! < N:=fun k hk=>by
 rw [Sort.size_swp] at hk
 rw [Sort.swp_get d hi hj k]
 split
 ·exact h i hi
 ·split
  ·exact h j hj
  ·exact h k hk
open Go.RowKit
def ltF (cf:Nat→Nat→Int) (x y:Nat):Bool:=decide (cf x y<0)
set_option maxRecDepth 100000 in
set_option maxHeartbeats 3200000 in
theorem insertion_any (w:World) (g o n cap a b N:Nat) (rv:Value) (cf:Nat→Nat→Int) (hc:CmpF w g N rv cf) (d:Array Nat) (hd:d.size=n) (hN:∀ k,k<d.size→d[k]! < N) (hab:a≤b) (hbn:b≤n) (hn:n≤300) (w1:World) (hw:SrtW w w1 g o d) :
  Calls Tryz.prog 176 #[.slice (some ⟨g,o,none⟩) n cap,.int .i64 (a:Int),.int .i64 (b:Int),.func (.func 111) #[rv] #[]] w1 fun e w'=>e=.returned (.tuple #[])∧SrtW w w' g o (Sort.insertionSort (ltF cf) d a b):=by
 have HC:Hid (CmpF w g N rv cf):=hc
 have HW:Hid (SrtW w w1 g o d∧(∀ k,k<d.size→d[k]! < N)∧d.size=n):=⟨hw,hN,hd⟩
 obtain ⟨T,hT⟩:∃ T,T=Sort.insertionSort (ltF cf) d a b:=⟨_,rfl⟩
 have HT:Hid (Sort.insOuter (ltF cf) a b (a+1) d=T):=hT.symm
 rw [← hT]
 clear hc hw hN hd hT
 go_enter Tryz.func176,Tryz.ntmps176
 go_wp2
 go_loopg [8] (b+1 - (a+1)) (fun gk s8 wx=>∃ (i:Nat) (d1:Array Nat),i≤b+1∧a+1≤i∧gk=b+1 - i∧s8=.int .i64 (i:Int)∧SrtW w wx g o d1∧(∀ k,k<d1.size→d1[k]! < N)∧d1.size=n∧Sort.insOuter (ltF cf) a b i d1=T)
 case atStart=>exact ⟨a+1,d,by omega,by omega,rfl,by go_num,HW.out.1,HW.out.2.1,HW.out.2.2,HT.out⟩
 case round =>
  obtain ⟨i,d1,hi,hai,rfl,rfl,hS,hN1,hd1,hT1⟩:=hrel
  have HS:Hid (SrtW w wr g o d1∧(∀ k,k<d1.size→d1[k]! < N)∧d1.size=n∧Sort.insOuter (ltF cf) a b i d1=T):=⟨hS,hN1,hd1,hT1⟩
  clear hS hN1 hd1 hT1
  by_cases h1:i<b
  ·have i1:(i:Int)<(b:Int):=by omega
   go_wp2
   go_loopg [9] i (fun gk s9 wx=>∃ (j:Nat) (d2:Array Nat),j≤i∧j=gk∧s9=.int .i64 (j:Int)∧SrtW w wx g o d2∧(∀ k,k<d2.size→d2[k]! < N)∧d2.size=n∧Sort.insInner (ltF cf) a j d2=Sort.insInner (ltF cf) a i d1)
   case atStart=>exact ⟨i,d1,by omega,rfl,rfl,HS.out.1,HS.out.2.1,HS.out.2.2.1,rfl⟩
   case round =>
    obtain ⟨j,d2,hj,rfl,rfl,hS2,hN2,hd2,hI⟩:=hrel
    have H2:Hid (SrtW w wr g o d2∧(∀ k,k<d2.size→d2[k]! < N)∧d2.size=n∧Sort.insInner (ltF cf) a j d2=Sort.insInner (ltF cf) a i d1):=⟨hS2,hN2,hd2,hI⟩
    have HO:Hid (Sort.insOuter (ltF cf) a b (i+1) (Sort.insInner (ltF cf) a i d1)=T):=by
     have:Sort.insOuter (ltF cf) a b (i+1) (Sort.insInner (ltF cf) a i d1)=T:=by
      rw [← HS.out.2.2.2]
      conv=>rhs;rw [Sort.insOuter,if_pos h1]
     exact this
    clear HS hS2 hN2 hd2 hI
    by_cases h2:a<j
    ·obtain ⟨p,rfl⟩:∃ p,j=p+1:=⟨j - 1,by omega⟩
     have hs2:=H2.out.2.2.1
     obtain ⟨r1,f1⟩:=H2.out.1.row (p+1) (by omega)
     obtain ⟨r0,f0⟩:=H2.out.1.row p (by omega)
     have l1:=H2.out.2.1 (p+1) (by omega)
     have l0:=H2.out.2.1 p (by omega)
     have zg:=H2.out.1.lt
     have HI:Hid (Sort.insInner (ltF cf) a (p+1) d2=if ltF cf d2[p+1]! d2[p]! = true then Sort.insInner (ltF cf) a p (Sort.swp d2 (p+1) p) else d2):=by
      have:Sort.insInner (ltF cf) a (p+1) d2=if ltF cf d2[p+1]! d2[p]! = true then Sort.insInner (ltF cf) a p (Sort.swp d2 (p+1) p) else d2:=by
       rw [Sort.insInner]
       have:decide (p+1 > a)=true:=by simpa using h2
       rw [this,Bool.true_and]
      exact this
     obtain ⟨x,hx⟩:∃ x,x=d2[p+1]!:=⟨_,rfl⟩
     obtain ⟨y,hy⟩:∃ y,y=d2[p]!:=⟨_,rfl⟩
     rw [← hx] at r1 l1 HI
     rw [← hy] at r0 l0 HI
     have HXY:Hid (x=d2[p+1]! ∧ y=d2[p]!):=⟨hx,hy⟩
     have CB:Hid (∀ W:World,Below wr.heap.size wr W→Calls Tryz.prog 111 #[rv,.int .i64 (x:Int),.int .i64 (y:Int)] W fun e w'=>e=.returned (.int .i64 (cf x y))∧Below W.heap.size W w'):=fun W hW=>HC.out W (H2.out.1.kept hW).gr x y l1 l0
     obtain ⟨c,hcv⟩:∃ c,c=cf x y:=⟨_,rfl⟩
     have HLT:Hid (ltF cf x y=decide (c<0)):=by
      have:ltF cf x y=decide (c<0):=by rw [hcv];rfl
      exact this
     rw [← hcv] at CB
     have j1:(a:Int)<(p:Int)+1:=by omega
     have e1:(p:Int)+1 - 1=(p:Int):=by omega
     have w1':IntKind.i64.wrap ((p:Int)+1 - 1)=(p:Int):=by rw [IntKind.wrap_i64];omega
     have w2':IntKind.i64.wrap (p:Int)=(p:Int):=by rw [IntKind.wrap_i64];omega
     have i2:(p:Int)+1<(n:Int):=by omega
     have i3:(p:Int)<(n:Int):=by omega
     have k2:(0:Int)≤(p:Int)+1:=by omega
     have k3:(0:Int)≤(p:Int):=by omega
     clear hx hy hcv l1 l0
     by_cases q:c<0
     ·go_wp2
      have kc:=Kin.cells wr
      have kn:Nonempty (Kin wr):=⟨⟨wr,bl_refl _⟩⟩
      refine wp_region_kin (by kernel_rfl) (by kernel_rfl) ?_
      repeat (go_big_quiet_step ((go_at_call 111;exact kin_of (CB.out _ (Kin.h _)))))
      refine wpQuiet_nil ?_
      intro wq hw'
      obtain ⟨nq,hw''⟩:=hw'
      have hq:Below wr.heap.size wr wq:=hw'' ▸ nq.h
      clear hw'' nq kc kn
      replace r1:=cl_kept hq r1
      replace r0:=cl_kept hq r0
      replace f1:=(hq.frozen zg).trans f1
      replace f0:=(hq.frozen zg).trans f0
      have zq:g<wq.heap.size:=Nat.lt_of_lt_of_le zg hq.size
      have HQ:Hid (SrtW w wq g o d2):=H2.out.1.kept hq
      clear hq CB
      go_wp2
      go_region
      all_goals
       go_wp2
       go_roundg p
       case measure=>omega
       case rel =>
        have hsw:=HQ.out.swap (i:=p+1) (j:=p) (by omega) (by omega) (by omega)
        rw [← HXY.out.1,← HXY.out.2] at hsw
        refine ⟨p,Sort.swp d2 (p+1) p,by omega,rfl,by go_num,hsw.kept (bl_drew (bl_refl _)),swp_lt H2.out.2.1 (by omega) (by omega),by rw [Sort.size_swp];exact H2.out.2.2.1, ?_⟩
        rw [← H2.out.2.2.2,HI.out,HLT.out,if_pos (by simpa using q)]
     ·go_wp2
      have kc:=Kin.cells wr
      have kn:Nonempty (Kin wr):=⟨⟨wr,bl_refl _⟩⟩
      refine wp_region_kin (by kernel_rfl) (by kernel_rfl) ?_
      repeat (go_big_quiet_step ((go_at_call 111;exact kin_of (CB.out _ (Kin.h _)))))
      refine wpQuiet_nil ?_
      intro wq hw'
      obtain ⟨nq,hw''⟩:=hw'
      have hq:Below wr.heap.size wr wq:=hw'' ▸ nq.h
      clear hw'' nq kc kn r1 r0 f1 f0
      have HD:Hid (Sort.insInner (ltF cf) a i d1=d2):=by
       have:Sort.insInner (ltF cf) a i d1=d2:=by
        rw [← H2.out.2.2.2,HI.out,HLT.out,if_neg (by simpa using q)]
       exact this
      go_wp2
      go_roundg (b+1 - (i+1))
      case measure=>omega
      case rel=>exact ⟨i+1,d2,by omega,by omega,rfl,by go_num,H2.out.1.kept hq,H2.out.2.1,H2.out.2.2.1,by rw [← HD.out];exact HO.out⟩
    ·have j1:¬ (a:Int)<(j:Int):=by omega
     have HD:Hid (Sort.insInner (ltF cf) a i d1=d2):=by
      have:Sort.insInner (ltF cf) a i d1=d2:=by
       rw [← H2.out.2.2.2]
       cases j with
       | zero=>rfl
       | succ p =>
        rw [Sort.insInner]
        have:decide (p+1 > a)=false:=by simpa using h2
        rw [this,Bool.false_and,if_neg (by simp)]
      exact this
     go_wp2
     have kc:=Kin.cells wr
     have kn:Nonempty (Kin wr):=⟨⟨wr,bl_refl _⟩⟩
     refine wp_region_kin (by kernel_rfl) (by kernel_rfl) ?_
     repeat (go_big_quiet_step (fail))
     refine wpQuiet_nil ?_
     intro wq hw'
     obtain ⟨nq,hw''⟩:=hw'
     have hq:Below wr.heap.size wr wq:=hw'' ▸ nq.h
     clear hw'' nq kc kn
     go_wp2
     go_roundg (b+1 - (i+1))
     case measure=>omega
     case rel=>exact ⟨i+1,d2,by omega,by omega,rfl,by go_num,H2.out.1.kept hq,H2.out.2.1,H2.out.2.2.1,by rw [← HD.out];exact HO.out⟩
  ·have i1:¬ (i:Int)<(b:Int):=by omega
   have HE:Hid (d1=T):=by
    have:d1=T:=by
     rw [← HS.out.2.2.2,Sort.insOuter,if_neg h1]
    exact this
   go_wp2
   go_end0
   exact ⟨rfl,HE.out ▸ HS.out.1⟩
open Go.RowKit
structure SwpW (w wx:World) (g o:Nat) (d:Array Nat) (sb s:Nat):Prop where
 r:SrtW w wx g o d
 c:wx.cell? ⟨sb,0,none⟩=some (.int .i64 (s:Int))
 f:wx.frozen? ⟨sb,0,none⟩=false
 low:w.heap.size≤sb
 ne:sb≠g
theorem SwpW.lt {w wx:World} {g o:Nat} {d:Array Nat} {sb s:Nat} (h:SwpW w wx g o d sb s):sb<wx.heap.size:=World.block_lt_of_cell? _ _ h.c
theorem SwpW.kept {w wx w':World} {g o:Nat} {d:Array Nat} {sb s:Nat} (h:SwpW w wx g o d sb s) (hb:Below wx.heap.size wx w'):SwpW w w' g o d sb s:=⟨h.r.kept hb,cl_kept hb h.c,(hb.frozen h.lt).trans h.f,h.low,h.ne⟩
theorem SwpW.put {w wx:World} {g o:Nat} {d:Array Nat} {sb s:Nat} (h:SwpW w wx g o d sb s) (t:Nat):SwpW w (wx.setCell ⟨sb,0,none⟩ (.int .i64 (t:Int))) g o d sb t:=by
 have g1:=grown_cell wx sb 0 (.int .i64 (t:Int))
 have hne:some g≠some sb:=fun e=>h.ne (by cases e;rfl)
 refine ⟨⟨fun j hj=>⟨g1.cell (h.r.row j hj).1 hne,(World.frozen?_of_block (a:=⟨g,o+j,none⟩) (g1.block g h.r.lt hne)).trans (h.r.row j hj).2⟩, ?_,Nat.lt_of_lt_of_le h.r.lt g1.size⟩,st_same h.c,by simp [go_sem,h.f],h.low,h.ne⟩
 have a:=h.r.gr
 exact ⟨g1.os.trans a.os,g1.tape.trans a.tape,g1.output.trans a.output,Nat.le_trans a.size g1.size,fun k hk hkg=>(g1.block k (Nat.lt_of_lt_of_le hk a.size) (fun e=>by cases e;have:=h.low;omega)).trans (a.block k hk hkg)⟩
set_option maxRecDepth 100000 in
set_option maxHeartbeats 1600000 in
theorem order2_any (w:World) (g o n cap a b N sb s:Nat) (rv:Value) (cf:Nat→Nat→Int) (hc:CmpF w g N rv cf) (d:Array Nat) (hd:d.size=n) (hN:∀ k,k<d.size→d[k]! < N) (ha:a<n) (hb:b<n) (_hn:n≤300) (hs:s≤100) (w1:World) (hw:SwpW w w1 g o d sb s) :
  Calls Tryz.prog 214 #[.slice (some ⟨g,o,none⟩) n cap,.int .i64 (a:Int),.int .i64 (b:Int),.pointer (some ⟨sb,0,none⟩),.func (.func 111) #[rv] #[]] w1 fun e w'=>e=.returned (.tuple #[.int .i64 ((Sort.order2 (ltF cf) d a b s).1:Int),.int .i64 ((Sort.order2 (ltF cf) d a b s).2.1:Int)])∧SwpW w w' g o d sb (Sort.order2 (ltF cf) d a b s).2.2:=by
 obtain ⟨r1,_⟩:=hw.r.row b (by omega)
 obtain ⟨r0,_⟩:=hw.r.row a (by omega)
 have l1:=hN b (by omega)
 have l0:=hN a (by omega)
 have zg:=hw.r.lt
 have HW:Hid (SwpW w w1 g o d sb s):=hw
 have HE:Hid (Sort.order2 (ltF cf) d a b s=if ltF cf d[b]! d[a]! = true then (b,a,s+1) else (a,b,s)):=rfl
 obtain ⟨x,hx⟩:∃ x,x=d[b]!:=⟨_,rfl⟩
 obtain ⟨y,hy⟩:∃ y,y=d[a]!:=⟨_,rfl⟩
 rw [← hx] at r1 l1 HE
 rw [← hy] at r0 l0 HE
 have CB:Hid (∀ W:World,Below w1.heap.size w1 W→Calls Tryz.prog 111 #[rv,.int .i64 (x:Int),.int .i64 (y:Int)] W fun e w'=>e=.returned (.int .i64 (cf x y))∧Below W.heap.size W w'):=fun W hW=>hc W (hw.r.kept hW).gr x y l1 l0
 obtain ⟨c,hcv⟩:∃ c,c=cf x y:=⟨_,rfl⟩
 have HLT:Hid (ltF cf x y=decide (c<0)):=by
  have:ltF cf x y=decide (c<0):=by rw [hcv];rfl
  exact this
 rw [← hcv] at CB
 have i1:(a:Int)<(n:Int):=by omega
 have i2:(b:Int)<(n:Int):=by omega
 have k1:(0:Int)≤(a:Int):=by omega
 have k2:(0:Int)≤(b:Int):=by omega
 obtain ⟨R,hR⟩:∃ R,R=Sort.order2 (ltF cf) d a b s:=⟨_,rfl⟩
 rw [← hR] at HE ⊢
 clear hx hy hcv l1 l0 hc hN hd hw hR
 by_cases q:c<0
 ·have HR:Hid (R=(b,a,s+1)):=by
   have:R=(b,a,s+1):=by rw [HE.out,HLT.out,if_pos (by simpa using q)]
   exact this
  go_enter Tryz.func214,Tryz.ntmps214
  go_wp2
  have kc:=Kin.cells w1
  have kn:Nonempty (Kin w1):=⟨⟨w1,bl_refl _⟩⟩
  refine wp_region_kin (by kernel_rfl) (by kernel_rfl) ?_
  repeat (go_big_quiet_step ((go_at_call 111;exact kin_of (CB.out _ (Kin.h _)))))
  refine wpQuiet_nil ?_
  intro wq hw'
  obtain ⟨nq,hw''⟩:=hw'
  have hq:Below w1.heap.size w1 wq:=hw'' ▸ nq.h
  clear hw'' nq kc kn r1 r0
  have hW2:=HW.out.kept hq
  have c0:=hW2.c
  have f0:=hW2.f
  have z0:=hW2.lt
  have HP:Hid (SwpW w (wq.setCell ⟨sb,0,none⟩ (.int .i64 ((s+1:Nat):Int))) g o d sb (s+1)):=hW2.put (s+1)
  clear hW2 hq
  go_wp2
  refine bodyPost_ret (v:=.tuple #[.int .i64 (b:Int),.int .i64 (a:Int)]) (by simp [results,Tryz.results214,go_sem]) rfl ⟨?_, ?_⟩
  ·rw [HR.out]
  ·rw [HR.out]
   simpa using HP.out
 ·have HR:Hid (R=(a,b,s)):=by
   have:R=(a,b,s):=by rw [HE.out,HLT.out,if_neg (by simpa using q)]
   exact this
  go_enter Tryz.func214,Tryz.ntmps214
  go_wp2
  have kc:=Kin.cells w1
  have kn:Nonempty (Kin w1):=⟨⟨w1,bl_refl _⟩⟩
  refine wp_region_kin (by kernel_rfl) (by kernel_rfl) ?_
  repeat (go_big_quiet_step ((go_at_call 111;exact kin_of (CB.out _ (Kin.h _)))))
  refine wpQuiet_nil ?_
  intro wq hw'
  obtain ⟨nq,hw''⟩:=hw'
  have hq:Below w1.heap.size w1 wq:=hw'' ▸ nq.h
  clear hw'' nq kc kn r1 r0
  go_wp2
  refine bodyPost_ret (v:=.tuple #[.int .i64 (a:Int),.int .i64 (b:Int)]) (by simp [results,Tryz.results214,go_sem]) rfl ⟨?_, ?_⟩
  ·rw [HR.out]
  ·rw [HR.out]
   exact HW.out.kept hq
end Go.Proofs.YtgpjaecgkkgehaaGreatDoor
