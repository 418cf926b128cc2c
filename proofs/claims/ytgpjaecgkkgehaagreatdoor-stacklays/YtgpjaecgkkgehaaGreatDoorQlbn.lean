/- slices.siftDownCmpFunc at numbers, by a method value. -/
import Derived.Test.YtgpjaecgkkgehaaGreatDoorQlaz
set_option maxRecDepth 100000
set_option maxHeartbeats 40000000
namespace Go.Proofs.YtgpjaecgkkgehaaGreatDoor
open Go.RowKit
theorem sift_any (w:World) (g o n cap lo hi first N:Nat) (rv:Value) (cf:Nat→Nat→Int) (hc:CmpF w g N rv cf) (d:Array Nat) (hd:d.size=n) (hN:∀k,k<d.size→d[k]! < N) (hlo:lo≤300) (hfh:first+hi≤n) (hn:n≤300) (w1:World) (hw:SrtW w w1 g o d) :
  Calls Tryz.prog 199 #[.slice (some ⟨g,o,none⟩) n cap,.int .i64 (lo:Int),.int .i64 (hi:Int),.int .i64 (first:Int),.func (.func 111) #[rv] #[]] w1 fun e w'=>e=.returned (.tuple #[])∧SrtW w w' g o (Sort.siftDown (ltF cf) hi first lo d):=by
 have HC:Hid (CmpF w g N rv cf):=hc
 have HW:Hid (SrtW w w1 g o d∧(∀k,k<d.size→d[k]! < N)∧d.size=n):=⟨hw,hN,hd⟩
 obtain ⟨T,hT⟩:∃T,T=Sort.siftDown (ltF cf) hi first lo d:=⟨_,rfl⟩
 have HT:Hid (Sort.siftDown (ltF cf) hi first lo d=T):=hT.symm
 rw [←hT]
 clear hc hw hN hd hT
 go_enter Tryz.func199,Tryz.ntmps199
 go_wp2
 go_loopg [10] (hi-lo) (fun gk s10 wx=>∃(r:Nat) (d1:Array Nat),r≤300∧gk=hi-r∧s10=.int .i64 (r:Int)∧SrtW w wx g o d1∧(∀k,k<d1.size→d1[k]! < N)∧d1.size=n∧Sort.siftDown (ltF cf) hi first r d1=T)
 case atStart=>exact ⟨lo,d,hlo,rfl,rfl,HW.out.1,HW.out.2.1,HW.out.2.2,HT.out⟩
 case round =>
  clear HW HT
  obtain ⟨r,d1,hr,rfl,rfl,hS,hN1,hd1,hT1⟩:=hrel
  have HS:Hid (SrtW w wr g o d1∧(∀k,k<d1.size→d1[k]! < N)∧d1.size=n∧Sort.siftDown (ltF cf) hi first r d1=T):=⟨hS,hN1,hd1,hT1⟩
  obtain ⟨c,hcc⟩:∃c:Nat,c=2*r+1:=⟨_,rfl⟩
  by_cases h1:c<hi
  ·have j1:¬(hi:Int)≤2*(r:Int)+1:=by omega
   have hs1:=hd1
   obtain ⟨fr,hfr⟩:∃x,x=first+r:=⟨_,rfl⟩
   obtain ⟨fc,hfc⟩:∃x,x=first+c:=⟨_,rfl⟩
   have HTT:Hid (T=if (decide (c+1<hi) && ltF cf d1[first+c]! d1[first+c+1]!)=true then (if ltF cf d1[first+r]! d1[first+(c+1)]! = true then Sort.siftDown (ltF cf) hi first (c+1) (Sort.swp d1 (first+r) (first+(c+1))) else d1) else (if ltF cf d1[first+r]! d1[first+c]! = true then Sort.siftDown (ltF cf) hi first c (Sort.swp d1 (first+r) (first+c)) else d1)):=by
    have:T=if (decide (c+1<hi) && ltF cf d1[first+c]! d1[first+c+1]!)=true then (if ltF cf d1[first+r]! d1[first+(c+1)]! = true then Sort.siftDown (ltF cf) hi first (c+1) (Sort.swp d1 (first+r) (first+(c+1))) else d1) else (if ltF cf d1[first+r]! d1[first+c]! = true then Sort.siftDown (ltF cf) hi first c (Sort.swp d1 (first+r) (first+c)) else d1):=by
     rw [←hT1,Sort.siftDown,dif_neg (by omega),hcc]
     split
     ·rename_i q
      have q':2*r+1+1<hi:=by simp at q;omega
      rw [dif_pos (by omega)]
      cases ltF cf d1[first+r]! d1[first+(2*r+2)]! <;> simp
     ·cases ltF cf d1[first+r]! d1[first+(2*r+1)]! <;> simp
    exact this
   have e1:(first:Int)+(2*(r:Int)+1)=(fc:Int):=by omega
   have e2:(first:Int)+(r:Int)=(fr:Int):=by omega
   have w1':IntKind.i64.wrap ((first:Int)+(2*(r:Int)+1))=(fc:Int):=by rw [IntKind.wrap_i64];omega
   have w2':IntKind.i64.wrap ((first:Int)+(r:Int))=(fr:Int):=by rw [IntKind.wrap_i64];omega
   have w3':IntKind.i64.wrap (2*(r:Int)+1+1)=2*(r:Int)+2:=by rw [IntKind.wrap_i64];omega
   have w3'':IntKind.i64.wrap (2*(r:Int)+2)=2*(r:Int)+2:=by rw [IntKind.wrap_i64];omega
   have i1:(fc:Int)<(n:Int):=by omega
   have i2:(fr:Int)<(n:Int):=by omega
   have k1:(0:Int)≤(fc:Int):=by omega
   have k2:(0:Int)≤(fr:Int):=by omega
   clear hS hN1 hT1 hd1
   by_cases h2:c+1<hi
   ·have j2:decide (2*(r:Int)+2<(hi:Int))=true:=decide_eq_true (by omega)
    obtain ⟨fd,hfd⟩:∃x,x=first+c+1:=⟨_,rfl⟩
    have e3:(fc:Int)+1=(fd:Int):=by omega
    have w5':IntKind.i64.wrap ((fc:Int)+1)=(fd:Int):=by rw [IntKind.wrap_i64];omega
    obtain ⟨r0,_⟩:=HS.out.1.row fc (by omega)
    obtain ⟨r1,_⟩:=HS.out.1.row fd (by omega)
    have l0:=HS.out.2.1 fc (by omega)
    have l1:=HS.out.2.1 fd (by omega)
    have i3:(fd:Int)<(n:Int):=by omega
    have k3:(0:Int)≤(fd:Int):=by omega
    have zg:=HS.out.1.lt
    obtain ⟨x,hx⟩:∃x,x=d1[fc]!:=⟨_,rfl⟩
    obtain ⟨y,hy⟩:∃y,y=d1[fd]!:=⟨_,rfl⟩
    have HXY:Hid (ltF cf d1[first+c]! d1[first+c+1]! = ltF cf x y):=by
     have:ltF cf d1[first+c]! d1[first+c+1]! = ltF cf x y:=by rw [hx,hy,hfc,hfd]
     exact this
    rw [←hx] at r0 l0
    rw [←hy] at r1 l1
    have CB:Hid (∀W:World,Bl wr W→Calls Tryz.prog 111 #[rv,.int .i64 (x:Int),.int .i64 (y:Int)] W fun e w'=>e=.returned (.int .i64 (cf x y))∧Bl W w'):=fun W hW=>HC.out W (HS.out.1.kept hW).gr x y l0 l1
    obtain ⟨c1,hcv⟩:∃c,c=cf x y:=⟨_,rfl⟩
    have HL1:Hid (ltF cf x y=decide (c1<0)):=by
     have:ltF cf x y=decide (c1<0):=by rw [hcv];rfl
     exact this
    rw [←hcv] at CB
    have HFD:Hid (fd=first+c+1):=hfd
    have HF0:Hid (fr=first+r∧fc=first+c∧c=2*r+1∧d1.size=n):=⟨hfr,hfc,hcc,hs1⟩
    have wfc:IntKind.i64.wrap (fc:Int)=(fc:Int):=by rw [IntKind.wrap_i64];omega
    have wfd:IntKind.i64.wrap (fd:Int)=(fd:Int):=by rw [IntKind.wrap_i64];omega
    clear hx hy hcv l0 l1 hfd hfr hfc hcc hs1
    have H0:Hid (SrtW w wr g o d1):=HS.out.1
    by_cases q:c1<0
    ·have HT2:Hid (T=if ltF cf d1[first+r]! d1[first+(c+1)]! = true then Sort.siftDown (ltF cf) hi first (c+1) (Sort.swp d1 (first+r) (first+(c+1))) else d1):=by
      have:T=if ltF cf d1[first+r]! d1[first+(c+1)]! = true then Sort.siftDown (ltF cf) hi first (c+1) (Sort.swp d1 (first+r) (first+(c+1))) else d1:=by
       rw [HTT.out,if_pos (by rw [HXY.out,HL1.out];simp [h2,q])]
      exact this
     go_wp2
     have kc:=Kin.cells wr
     have kn:Nonempty (Kin wr):=⟨⟨wr,Qc _⟩⟩
     refine Qg (by kernel_rfl) (by kernel_rfl) ?_
     repeat (go_big_quiet_step ((go_at_call 111;exact Qo (CB.out _ (Kin.h _)))))
     refine wpQuiet_nil ?_
     intro wq hw'
     obtain ⟨nq,hw''⟩:=hw'
     have hq:Bl wr wq:=hw'' ▸ nq.h
     clear hw'' nq kc kn
     have H1:Hid (SrtW w wq g o d1):=H0.out.kept hq
     clear hq H0 CB r0 r1 e3 w5' i3 k3
     obtain ⟨hfr,hfc,hcc,hs1⟩:=HF0.out
     have zg2:=H1.out.lt
     obtain ⟨fk,hfk⟩:∃x,x=first+(c+1):=⟨_,rfl⟩
     obtain ⟨r4,f4⟩:=H1.out.row fr (by omega)
     obtain ⟨r5,f5⟩:=H1.out.row fk (by omega)
     have l4:=HS.out.2.1 fr (by omega)
     have l5:=HS.out.2.1 fk (by omega)
     have e4:(first:Int)+(2*(r:Int)+2)=(fk:Int):=by omega
     have w4:IntKind.i64.wrap ((first:Int)+(2*(r:Int)+2))=(fk:Int):=by rw [IntKind.wrap_i64];omega
     have i5:(fk:Int)<(n:Int):=by omega
     have k5:(0:Int)≤(fk:Int):=by omega
     have hne:fr≠fk:=by omega
     obtain ⟨z,hz⟩:∃z,z=d1[fr]!:=⟨_,rfl⟩
     obtain ⟨v,hv⟩:∃v,v=d1[fk]!:=⟨_,rfl⟩
     have hsw:=H1.out.swap (i:=fr) (j:=fk) (by omega) (by omega) hne
     rw [←hz,←hv] at hsw
     rw [←hz] at r4 l4
     rw [←hv] at r5 l5
     have HT3:Hid (T=if ltF cf z v=true then Sort.siftDown (ltF cf) hi first (c+1) (Sort.swp d1 fr fk) else d1):=by
      have:T=if ltF cf z v=true then Sort.siftDown (ltF cf) hi first (c+1) (Sort.swp d1 fr fk) else d1:=by
       rw [hz,hv,hfk,hfr]
       exact HT2.out
      exact this
     have CB2:Hid (∀W:World,Bl wq W→Calls Tryz.prog 111 #[rv,.int .i64 (z:Int),.int .i64 (v:Int)] W fun e w'=>e=.returned (.int .i64 (cf z v))∧Bl W w'):=fun W hW=>HC.out W (H1.out.kept hW).gr z v l4 l5
     obtain ⟨c2,hcv2⟩:∃c,c=cf z v:=⟨_,rfl⟩
     have HL2:Hid (ltF cf z v=decide (c2<0)):=by
      have:ltF cf z v=decide (c2<0):=by rw [hcv2];rfl
      exact this
     rw [←hcv2] at CB2
     have HZV:Hid (z=d1[fr]! ∧ v=d1[fk]!):=⟨hz,hv⟩
     have HF:Hid (fk=first+(c+1)∧fr=first+r∧c=2*r+1∧fk<d1.size∧fr<d1.size∧(c+1)<hi):=⟨hfk,hfr,hcc,by omega,by omega,by omega⟩
     clear hz hv hcv2 l4 l5 hsw e1 w1' hfk hfr hcc hfc hs1
     by_cases q2:c2<0
     ·go_wp2
      have kc:=Kin.cells wq
      have kn:Nonempty (Kin wq):=⟨⟨wq,Qc _⟩⟩
      refine Qg (by kernel_rfl) (by kernel_rfl) ?_
      repeat (go_big_quiet_step ((go_at_call 111;exact Qo (CB2.out _ (Kin.h _)))))
      refine wpQuiet_nil ?_
      intro wp hw'
      obtain ⟨nq,hw''⟩:=hw'
      have hq:Bl wq wp:=hw'' ▸ nq.h
      clear hw'' nq kc kn
      have HK:Hid (SrtW w wp g o d1):=H1.out.kept hq
      have hsw:=HK.out.swap (i:=fr) (j:=fk) HF.out.2.2.2.2.1 HF.out.2.2.2.1 hne
      replace r4:=Qa hq r4
      replace r5:=Qa hq r5
      replace f4:=(hq.frozen zg2).trans f4
      replace f5:=(hq.frozen zg2).trans f5
      have zq:g<wp.heap.size:=Nat.lt_of_lt_of_le zg2 hq.size
      rw [←HZV.out.1,←HZV.out.2] at hsw
      have HSW:Hid (SrtW w ((wp.setCell ⟨g,o+fr,none⟩ (.int .i64 (v:Int))).setCell ⟨g,o+fk,none⟩ (.int .i64 (z:Int))) g o (Sort.swp d1 fr fk)):=hsw
      clear hq CB2 hsw
      go_wp2
      go_region
      all_goals
       go_wp2
       have hF:=HF.out
       go_roundg (hi-(c+1))
       case measure=>omega
       case rel=>exact ⟨(c+1),Sort.swp d1 fr fk,by omega,rfl,by first|go_num|(congr 1;omega),HSW.out.kept (Qf (Qc _)),Jb HS.out.2.1 HF.out.2.2.2.2.1 HF.out.2.2.2.1,by rw [Sort.size_swp];exact HS.out.2.2.1,by rw [HT3.out,HL2.out,if_pos (by simpa using q2)]⟩
     ·have qb2:decide (c2<0)=false:=decide_eq_false q2
      have qb3:¬c2<0:=q2
      go_wp2
      have kc:=Kin.cells wq
      have kn:Nonempty (Kin wq):=⟨⟨wq,Qc _⟩⟩
      refine Qg (by kernel_rfl) (by kernel_rfl) ?_
      repeat (go_big_quiet_step ((go_at_call 111;exact Qo (CB2.out _ (Kin.h _)))))
      refine wpQuiet_nil ?_
      intro wp hw'
      obtain ⟨nq,hw''⟩:=hw'
      have hq:Bl wq wp:=hw'' ▸ nq.h
      clear hw'' nq kc kn
      have HE:Hid (d1=T):=by
       have:d1=T:=by
        rw [HT3.out,HL2.out,if_neg (by simpa using q2)]
       exact this
      have HK:Hid (SrtW w wp g o d1):=H1.out.kept hq
      clear r4 r5 f4 f5 hq
      go_wp2
      exact bodyPost_ret (v:=.tuple #[]) (by simp [results,Tryz.results199,go_sem]) rfl ⟨rfl,HE.out ▸ HK.out⟩
    ·have HT2:Hid (T=if ltF cf d1[first+r]! d1[first+c]! = true then Sort.siftDown (ltF cf) hi first c (Sort.swp d1 (first+r) (first+c)) else d1):=by
      have:T=if ltF cf d1[first+r]! d1[first+c]! = true then Sort.siftDown (ltF cf) hi first c (Sort.swp d1 (first+r) (first+c)) else d1:=by
       rw [HTT.out,if_neg (by rw [HXY.out,HL1.out];simp [q])]
      exact this
     go_wp2
     have kc:=Kin.cells wr
     have kn:Nonempty (Kin wr):=⟨⟨wr,Qc _⟩⟩
     refine Qg (by kernel_rfl) (by kernel_rfl) ?_
     repeat (go_big_quiet_step ((go_at_call 111;exact Qo (CB.out _ (Kin.h _)))))
     refine wpQuiet_nil ?_
     intro wq hw'
     obtain ⟨nq,hw''⟩:=hw'
     have hq:Bl wr wq:=hw'' ▸ nq.h
     clear hw'' nq kc kn
     have H1:Hid (SrtW w wq g o d1):=H0.out.kept hq
     clear hq H0 CB r0 r1 e3 w5' i3 k3
     obtain ⟨hfr,hfc,hcc,hs1⟩:=HF0.out
     have zg2:=H1.out.lt
     obtain ⟨fk,hfk⟩:∃x,x=first+c:=⟨_,rfl⟩
     obtain ⟨r4,f4⟩:=H1.out.row fr (by omega)
     obtain ⟨r5,f5⟩:=H1.out.row fk (by omega)
     have l4:=HS.out.2.1 fr (by omega)
     have l5:=HS.out.2.1 fk (by omega)
     have e4:(first:Int)+(2*(r:Int)+1)=(fk:Int):=by omega
     have w4:IntKind.i64.wrap ((first:Int)+(2*(r:Int)+1))=(fk:Int):=by rw [IntKind.wrap_i64];omega
     have i5:(fk:Int)<(n:Int):=by omega
     have k5:(0:Int)≤(fk:Int):=by omega
     have hne:fr≠fk:=by omega
     obtain ⟨z,hz⟩:∃z,z=d1[fr]!:=⟨_,rfl⟩
     obtain ⟨v,hv⟩:∃v,v=d1[fk]!:=⟨_,rfl⟩
     have hsw:=H1.out.swap (i:=fr) (j:=fk) (by omega) (by omega) hne
     rw [←hz,←hv] at hsw
     rw [←hz] at r4 l4
     rw [←hv] at r5 l5
     have HT3:Hid (T=if ltF cf z v=true then Sort.siftDown (ltF cf) hi first c (Sort.swp d1 fr fk) else d1):=by
      have:T=if ltF cf z v=true then Sort.siftDown (ltF cf) hi first c (Sort.swp d1 fr fk) else d1:=by
       rw [hz,hv,hfk,hfr]
       exact HT2.out
      exact this
     have CB2:Hid (∀W:World,Bl wq W→Calls Tryz.prog 111 #[rv,.int .i64 (z:Int),.int .i64 (v:Int)] W fun e w'=>e=.returned (.int .i64 (cf z v))∧Bl W w'):=fun W hW=>HC.out W (H1.out.kept hW).gr z v l4 l5
     obtain ⟨c2,hcv2⟩:∃c,c=cf z v:=⟨_,rfl⟩
     have HL2:Hid (ltF cf z v=decide (c2<0)):=by
      have:ltF cf z v=decide (c2<0):=by rw [hcv2];rfl
      exact this
     rw [←hcv2] at CB2
     have HZV:Hid (z=d1[fr]! ∧ v=d1[fk]!):=⟨hz,hv⟩
     have HF:Hid (fk=first+c∧fr=first+r∧c=2*r+1∧fk<d1.size∧fr<d1.size∧c<hi):=⟨hfk,hfr,hcc,by omega,by omega,by omega⟩
     clear hz hv hcv2 l4 l5 hsw e1 w1' hfk hfr hcc hfc hs1
     by_cases q2:c2<0
     ·go_wp2
      have kc:=Kin.cells wq
      have kn:Nonempty (Kin wq):=⟨⟨wq,Qc _⟩⟩
      refine Qg (by kernel_rfl) (by kernel_rfl) ?_
      repeat (go_big_quiet_step ((go_at_call 111;exact Qo (CB2.out _ (Kin.h _)))))
      refine wpQuiet_nil ?_
      intro wp hw'
      obtain ⟨nq,hw''⟩:=hw'
      have hq:Bl wq wp:=hw'' ▸ nq.h
      clear hw'' nq kc kn
      have HK:Hid (SrtW w wp g o d1):=H1.out.kept hq
      have hsw:=HK.out.swap (i:=fr) (j:=fk) HF.out.2.2.2.2.1 HF.out.2.2.2.1 hne
      replace r4:=Qa hq r4
      replace r5:=Qa hq r5
      replace f4:=(hq.frozen zg2).trans f4
      replace f5:=(hq.frozen zg2).trans f5
      have zq:g<wp.heap.size:=Nat.lt_of_lt_of_le zg2 hq.size
      rw [←HZV.out.1,←HZV.out.2] at hsw
      have HSW:Hid (SrtW w ((wp.setCell ⟨g,o+fr,none⟩ (.int .i64 (v:Int))).setCell ⟨g,o+fk,none⟩ (.int .i64 (z:Int))) g o (Sort.swp d1 fr fk)):=hsw
      clear hq CB2 hsw
      go_wp2
      go_region
      all_goals
       go_wp2
       have hF:=HF.out
       go_roundg (hi-c)
       case measure=>omega
       case rel=>exact ⟨c,Sort.swp d1 fr fk,by omega,rfl,by first|go_num|(congr 1;omega),HSW.out.kept (Qf (Qc _)),Jb HS.out.2.1 HF.out.2.2.2.2.1 HF.out.2.2.2.1,by rw [Sort.size_swp];exact HS.out.2.2.1,by rw [HT3.out,HL2.out,if_pos (by simpa using q2)]⟩
     ·have qb2:decide (c2<0)=false:=decide_eq_false q2
      have qb3:¬c2<0:=q2
      go_wp2
      have kc:=Kin.cells wq
      have kn:Nonempty (Kin wq):=⟨⟨wq,Qc _⟩⟩
      refine Qg (by kernel_rfl) (by kernel_rfl) ?_
      repeat (go_big_quiet_step ((go_at_call 111;exact Qo (CB2.out _ (Kin.h _)))))
      refine wpQuiet_nil ?_
      intro wp hw'
      obtain ⟨nq,hw''⟩:=hw'
      have hq:Bl wq wp:=hw'' ▸ nq.h
      clear hw'' nq kc kn
      have HE:Hid (d1=T):=by
       have:d1=T:=by
        rw [HT3.out,HL2.out,if_neg (by simpa using q2)]
       exact this
      have HK:Hid (SrtW w wp g o d1):=H1.out.kept hq
      clear r4 r5 f4 f5 hq
      go_wp2
      exact bodyPost_ret (v:=.tuple #[]) (by simp [results,Tryz.results199,go_sem]) rfl ⟨rfl,HE.out ▸ HK.out⟩
   ·have j2:decide (2*(r:Int)+2<(hi:Int))=false:=decide_eq_false (by omega)
    have HT2:Hid (T=if ltF cf d1[first+r]! d1[first+c]! = true then Sort.siftDown (ltF cf) hi first c (Sort.swp d1 (first+r) (first+c)) else d1):=by
     have:T=if ltF cf d1[first+r]! d1[first+c]! = true then Sort.siftDown (ltF cf) hi first c (Sort.swp d1 (first+r) (first+c)) else d1:=by
      rw [HTT.out,if_neg (by simp [h2])]
     exact this
    have H0:Hid (SrtW w wr g o d1):=HS.out.1
    go_wp2
    have kc:=Kin.cells wr
    have kn:Nonempty (Kin wr):=⟨⟨wr,Qc _⟩⟩
    refine Qg (by kernel_rfl) (by kernel_rfl) ?_
    repeat (go_big_quiet_step (fail))
    refine wpQuiet_nil ?_
    intro wq hw'
    obtain ⟨nq,hw''⟩:=hw'
    have hq:Bl wr wq:=hw'' ▸ nq.h
    clear hw'' nq kc kn
    have H1:Hid (SrtW w wq g o d1):=H0.out.kept hq
    clear hq H0
    have zg2:=H1.out.lt
    obtain ⟨fk,hfk⟩:∃x,x=first+c:=⟨_,rfl⟩
    obtain ⟨r4,f4⟩:=H1.out.row fr (by omega)
    obtain ⟨r5,f5⟩:=H1.out.row fk (by omega)
    have l4:=HS.out.2.1 fr (by omega)
    have l5:=HS.out.2.1 fk (by omega)
    have e4:(first:Int)+(2*(r:Int)+1)=(fk:Int):=by omega
    have w4:IntKind.i64.wrap ((first:Int)+(2*(r:Int)+1))=(fk:Int):=by rw [IntKind.wrap_i64];omega
    have i5:(fk:Int)<(n:Int):=by omega
    have k5:(0:Int)≤(fk:Int):=by omega
    have hne:fr≠fk:=by omega
    obtain ⟨z,hz⟩:∃z,z=d1[fr]!:=⟨_,rfl⟩
    obtain ⟨v,hv⟩:∃v,v=d1[fk]!:=⟨_,rfl⟩
    have hsw:=H1.out.swap (i:=fr) (j:=fk) (by omega) (by omega) hne
    rw [←hz,←hv] at hsw
    rw [←hz] at r4 l4
    rw [←hv] at r5 l5
    have HT3:Hid (T=if ltF cf z v=true then Sort.siftDown (ltF cf) hi first c (Sort.swp d1 fr fk) else d1):=by
     have:T=if ltF cf z v=true then Sort.siftDown (ltF cf) hi first c (Sort.swp d1 fr fk) else d1:=by
      rw [hz,hv,hfk,hfr]
      exact HT2.out
     exact this
    have CB2:Hid (∀W:World,Bl wq W→Calls Tryz.prog 111 #[rv,.int .i64 (z:Int),.int .i64 (v:Int)] W fun e w'=>e=.returned (.int .i64 (cf z v))∧Bl W w'):=fun W hW=>HC.out W (H1.out.kept hW).gr z v l4 l5
    obtain ⟨c2,hcv2⟩:∃c,c=cf z v:=⟨_,rfl⟩
    have HL2:Hid (ltF cf z v=decide (c2<0)):=by
     have:ltF cf z v=decide (c2<0):=by rw [hcv2];rfl
     exact this
    rw [←hcv2] at CB2
    have HZV:Hid (z=d1[fr]! ∧ v=d1[fk]!):=⟨hz,hv⟩
    have HF:Hid (fk=first+c∧fr=first+r∧c=2*r+1∧fk<d1.size∧fr<d1.size∧c<hi):=⟨hfk,hfr,hcc,by omega,by omega,by omega⟩
    clear hz hv hcv2 l4 l5 hsw e1 w1' hfk hfr hcc hfc hs1
    by_cases q2:c2<0
    ·go_wp2
     have kc:=Kin.cells wq
     have kn:Nonempty (Kin wq):=⟨⟨wq,Qc _⟩⟩
     refine Qg (by kernel_rfl) (by kernel_rfl) ?_
     repeat (go_big_quiet_step ((go_at_call 111;exact Qo (CB2.out _ (Kin.h _)))))
     refine wpQuiet_nil ?_
     intro wp hw'
     obtain ⟨nq,hw''⟩:=hw'
     have hq:Bl wq wp:=hw'' ▸ nq.h
     clear hw'' nq kc kn
     have HK:Hid (SrtW w wp g o d1):=H1.out.kept hq
     have hsw:=HK.out.swap (i:=fr) (j:=fk) HF.out.2.2.2.2.1 HF.out.2.2.2.1 hne
     replace r4:=Qa hq r4
     replace r5:=Qa hq r5
     replace f4:=(hq.frozen zg2).trans f4
     replace f5:=(hq.frozen zg2).trans f5
     have zq:g<wp.heap.size:=Nat.lt_of_lt_of_le zg2 hq.size
     rw [←HZV.out.1,←HZV.out.2] at hsw
     have HSW:Hid (SrtW w ((wp.setCell ⟨g,o+fr,none⟩ (.int .i64 (v:Int))).setCell ⟨g,o+fk,none⟩ (.int .i64 (z:Int))) g o (Sort.swp d1 fr fk)):=hsw
     clear hq CB2 hsw
     go_wp2
     go_region
     all_goals
      go_wp2
      have hF:=HF.out
      go_roundg (hi-c)
      case measure=>omega
      case rel=>exact ⟨c,Sort.swp d1 fr fk,by omega,rfl,by first|go_num|(congr 1;omega),HSW.out.kept (Qf (Qc _)),Jb HS.out.2.1 HF.out.2.2.2.2.1 HF.out.2.2.2.1,by rw [Sort.size_swp];exact HS.out.2.2.1,by rw [HT3.out,HL2.out,if_pos (by simpa using q2)]⟩
    ·have qb2:decide (c2<0)=false:=decide_eq_false q2
     have qb3:¬c2<0:=q2
     go_wp2
     have kc:=Kin.cells wq
     have kn:Nonempty (Kin wq):=⟨⟨wq,Qc _⟩⟩
     refine Qg (by kernel_rfl) (by kernel_rfl) ?_
     repeat (go_big_quiet_step ((go_at_call 111;exact Qo (CB2.out _ (Kin.h _)))))
     refine wpQuiet_nil ?_
     intro wp hw'
     obtain ⟨nq,hw''⟩:=hw'
     have hq:Bl wq wp:=hw'' ▸ nq.h
     clear hw'' nq kc kn
     have HE:Hid (d1=T):=by
      have:d1=T:=by
       rw [HT3.out,HL2.out,if_neg (by simpa using q2)]
      exact this
     have HK:Hid (SrtW w wp g o d1):=H1.out.kept hq
     clear r4 r5 f4 f5 hq
     go_wp2
     exact bodyPost_ret (v:=.tuple #[]) (by simp [results,Tryz.results199,go_sem]) rfl ⟨rfl,HE.out ▸ HK.out⟩
  ·have j1:(hi:Int)≤2*(r:Int)+1:=by omega
   have HE:Hid (d1=T):=by
    have:d1=T:=by
     rw [←hT1,Sort.siftDown,dif_pos (by omega)]
    exact this
   clear hS hN1 hT1 hd1
   go_wp2
   go_end0
   exact ⟨rfl,HE.out ▸ HS.out.1⟩
end Go.Proofs.YtgpjaecgkkgehaaGreatDoor
