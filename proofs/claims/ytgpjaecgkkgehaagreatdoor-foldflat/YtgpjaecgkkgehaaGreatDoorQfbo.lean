/- How Lay's order is asked. -/
import Derived.Test.YtgpjaecgkkgehaaGreatDoorQfbn
namespace Go.Proofs.YtgpjaecgkkgehaaGreatDoor
open Go.RowKit
structure Ordr (w:World) (bh bf gh oh ch gf of_ cf:Nat) (hs:List Int) (fs:List Nat):Prop where
 h:w.cell? ⟨bh,0,none⟩=some (.slice (some ⟨gh,oh,none⟩) hs.length ch)
 f:w.cell? ⟨bf,0,none⟩=some (.slice (some ⟨gf,of_,none⟩) fs.length cf)
 hr:Row w (some ⟨gh,oh,none⟩) hs
 fr:NRow w gf of_ fs
theorem Ordr.kept {w w':World} {bh bf gh oh ch gf of_ cf:Nat} {hs:List Int} {fs:List Nat} (o:Ordr w bh bf gh oh ch gf of_ cf hs fs) (hb:Below w.heap.size w w'):Ordr w' bh bf gh oh ch gf of_ cf hs fs:=⟨cl_kept hb o.h,cl_kept hb o.f,o.hr.kept hb,o.fr.kept hb⟩
def hgt (hs:List Int) (fs:List Nat) (a:Nat):Int:=hs.getD (fs.getD a 0) 0
theorem row_get {w:World} {g o:Nat} {hs:List Int} (h:Row w (some ⟨g,o,none⟩) hs) {i:Nat} (hi:i<hs.length):w.cell? ⟨g,o+i,none⟩=some (.int .i64 (hs.getD i 0)):=by
 obtain ⟨b,off,e,hc⟩:=h i hi
 cases e
 rw [hc,List.getD_eq_getElem?_getD,List.getElem?_eq_getElem hi]
 rfl
set_option maxRecDepth 100000 in
set_option maxHeartbeats 1600000 in
theorem above_any (w:World) (bh bf gh oh ch gf of_ cf a b:Nat) (hs:List Int) (fs:List Nat) (o:Ordr w bh bf gh oh ch gf of_ cf hs fs) (ha:a<fs.length) (hb:b<fs.length) (hf:∀ j∈fs,j<hs.length) (_h1:fs.length≤300) (_h2:hs.length≤300) :
  Calls Tryz.prog 32 #[.int .i64 (a:Int),.int .i64 (b:Int),.pointer (some ⟨bh,0,none⟩),.pointer (some ⟨bf,0,none⟩)] w fun e w'=>e=.returned (.bool (decide (hgt hs fs b<hgt hs fs a)))∧Below w.heap.size w w':=by
 have p0:=o.h
 have p1:=o.f
 have ra:=o.fr a ha
 have rb:=o.fr b hb
 have ja:=hf fs[a] (List.getElem_mem ha)
 have jb:=hf fs[b] (List.getElem_mem hb)
 have ca:=row_get o.hr ja
 have cb:=row_get o.hr jb
 have ea:hgt hs fs a=hs.getD fs[a] 0:=by
  unfold hgt
  rw [List.getD_eq_getElem?_getD (l:=fs),List.getElem?_eq_getElem ha]
  rfl
 have eb:hgt hs fs b=hs.getD fs[b] 0:=by
  unfold hgt
  rw [List.getD_eq_getElem?_getD (l:=fs),List.getElem?_eq_getElem hb]
  rfl
 rw [ea,eb]
 obtain ⟨x,hx⟩:∃ x,x=fs[a]:=⟨_,rfl⟩
 obtain ⟨y,hy⟩:∃ y,y=fs[b]:=⟨_,rfl⟩
 rw [← hx] at ra ja ca ⊢
 rw [← hy] at rb jb cb ⊢
 obtain ⟨u,hu⟩:∃ u,u=hs.getD x 0:=⟨_,rfl⟩
 obtain ⟨v,hv⟩:∃ v,v=hs.getD y 0:=⟨_,rfl⟩
 rw [← hu] at ca ⊢
 rw [← hv] at cb ⊢
 have i1:(a:Int)<(fs.length:Int):=by omega
 have i2:(b:Int)<(fs.length:Int):=by omega
 have i3:(x:Int)<(hs.length:Int):=by omega
 have i4:(y:Int)<(hs.length:Int):=by omega
 have k1:(0:Int)≤(a:Int):=by omega
 have k2:(0:Int)≤(b:Int):=by omega
 have k3:(0:Int)≤(x:Int):=by omega
 have k4:(0:Int)≤(y:Int):=by omega
 have z0:bh<w.heap.size:=World.block_lt_of_cell? _ _ p0
 have z1:bf<w.heap.size:=World.block_lt_of_cell? _ _ p1
 have z2:gf<w.heap.size:=World.block_lt_of_cell? _ _ ra
 have z3:gh<w.heap.size:=World.block_lt_of_cell? _ _ ca
 clear o hf hx hy hu hv ea eb
 go_enter Tryz.func32,Tryz.ntmps32
 go_wp2
 have kc:=Kin.cells w
 have kn:Nonempty (Kin w):=⟨⟨w,bl_refl _⟩⟩
 refine wp_region_kin (by kernel_rfl) (by kernel_rfl) ?_
 repeat (go_big_quiet_step (fail))
 refine wpQuiet_nil ?_
 intro wq hw'
 obtain ⟨nq,hw''⟩:=hw'
 have hq:Below w.heap.size w wq:=hw'' ▸ nq.h
 clear hw'' nq kc kn p0 p1 ra rb ca cb
 go_wp2
 go_ret
 exact ⟨rfl,hq⟩
def cmpN (hs:List Int) (fs:List Nat) (a b:Nat):Int:=if hgt hs fs a<hgt hs fs b then -1 else if hgt hs fs b<hgt hs fs a then 1 else 0
set_option maxRecDepth 100000 in
set_option maxHeartbeats 1600000 in
theorem orderCompare_any (w:World) (bh bf gh oh ch gf of_ cf a b:Nat) (hs:List Int) (fs:List Nat) (o:Ordr w bh bf gh oh ch gf of_ cf hs fs) (ha:a<fs.length) (hb:b<fs.length) (hf:∀ j∈fs,j<hs.length) (h1:fs.length≤300) (h2:hs.length≤300) :
  Calls Tryz.prog 111 #[.func (.func 32) #[] #[.pointer (some ⟨bh,0,none⟩),.pointer (some ⟨bf,0,none⟩)],.int .i64 (a:Int),.int .i64 (b:Int)] w fun e w'=>e=.returned (.int .i64 (cmpN hs fs a b))∧Below w.heap.size w w':=by
 have C1:Hid (∀ W:World,Below w.heap.size w W→Calls Tryz.prog 32 #[.int .i64 (b:Int),.int .i64 (a:Int),.pointer (some ⟨bh,0,none⟩),.pointer (some ⟨bf,0,none⟩)] W fun e w'=>e=.returned (.bool (decide (hgt hs fs a<hgt hs fs b)))∧Below W.heap.size W w'):=fun W hW=>above_any W bh bf gh oh ch gf of_ cf b a hs fs (o.kept hW) hb ha hf h1 h2
 have C2:Hid (∀ W:World,Below w.heap.size w W→Calls Tryz.prog 32 #[.int .i64 (a:Int),.int .i64 (b:Int),.pointer (some ⟨bh,0,none⟩),.pointer (some ⟨bf,0,none⟩)] W fun e w'=>e=.returned (.bool (decide (hgt hs fs b<hgt hs fs a)))∧Below W.heap.size W w'):=fun W hW=>above_any W bh bf gh oh ch gf of_ cf a b hs fs (o.kept hW) ha hb hf h1 h2
 have HE:Hid (cmpN hs fs a b=if decide (hgt hs fs a<hgt hs fs b)=true then -1 else if decide (hgt hs fs b<hgt hs fs a)=true then 1 else 0):=by
  have:cmpN hs fs a b=if decide (hgt hs fs a<hgt hs fs b)=true then -1 else if decide (hgt hs fs b<hgt hs fs a)=true then 1 else 0:=by simp [cmpN]
  exact this
 obtain ⟨r,hr⟩:∃ r,r=cmpN hs fs a b:=⟨_,rfl⟩
 obtain ⟨p,hp⟩:∃ p,p=decide (hgt hs fs a<hgt hs fs b):=⟨_,rfl⟩
 obtain ⟨q,hq⟩:∃ q,q=decide (hgt hs fs b<hgt hs fs a):=⟨_,rfl⟩
 rw [← hp] at C1 HE
 rw [← hq] at C2 HE
 rw [← hr] at HE ⊢
 clear hp hq hr o hf ha hb h1 h2
 cases p
 ·cases q
  ·have HR:Hid (r=0):=HE.out
   clear HE
   go_enter Tryz.func111,Tryz.ntmps111
   go_wp2_with (first
    | (go_at_call 32;refine (C1.out _ (bl_refl _)).mono ?_;rintro e w1 ⟨rfl,hb1⟩;have HB1:Hid (Below w.heap.size w w1):=hb1;clear hb1 C1)
    | (go_at_call 32;refine (C2.out _ HB1.out).mono ?_;rintro e w2 ⟨rfl,hb2⟩;have HB2:Hid (Below w.heap.size w w2):=bl_via HB1.out hb2;clear hb2))
   go_ret
   exact ⟨ret_int HR.out.symm,HB2.out⟩
  ·have HR:Hid (r=1):=HE.out
   clear HE
   go_enter Tryz.func111,Tryz.ntmps111
   go_wp2_with (first
    | (go_at_call 32;refine (C1.out _ (bl_refl _)).mono ?_;rintro e w1 ⟨rfl,hb1⟩;have HB1:Hid (Below w.heap.size w w1):=hb1;clear hb1 C1)
    | (go_at_call 32;refine (C2.out _ HB1.out).mono ?_;rintro e w2 ⟨rfl,hb2⟩;have HB2:Hid (Below w.heap.size w w2):=bl_via HB1.out hb2;clear hb2))
   go_ret
   exact ⟨ret_int HR.out.symm,HB2.out⟩
 ·have HR:Hid (r=-1):=HE.out
  clear HE
  go_enter Tryz.func111,Tryz.ntmps111
  go_wp2_with (go_at_call 32;refine (C1.out _ (bl_refl _)).mono ?_;rintro e w1 ⟨rfl,hb1⟩;have HB1:Hid (Below w.heap.size w w1):=hb1;clear hb1)
  go_ret
  exact ⟨ret_int HR.out.symm,HB1.out⟩
end Go.Proofs.YtgpjaecgkkgehaaGreatDoor
