/- A part of the proof of foldFlat_holds. -/
import Derived.Test.YtgpjaecgkkgehaaGreatDoorQfbg
import Derived.Test.YtgpjaecgkkgehaaGreatDoorQfau
namespace Go.Proofs.YtgpjaecgkkgehaaGreatDoor
open Go.RowKit Go.Shelf Go.ChangeMaps
theorem four_one (a b c:Int) (d:Option Addr) (n m:Nat):∀ u ∈ [Value.int .i64 a,.int .i64 b,.int .i64 c,.slice d n m],u.oneCell'=true:=by
 intro u hu
 simp at hu
 rcases hu with rfl | rfl | rfl | rfl <;> rfl
theorem heap_of {L pl:List (Int×Int×Int)} {h:Nat→Int} {S:List ((Int×Int×Int)×Nat×Nat)} {H:List ((Int×Int×Int)×List Nat)} (hl:H.length=S.length) (hd:∀ i (hi:i<H.length) (hj:i<S.length),H[i].1=S[i].1∧H[i].2.Perm (Gk pl S[i].1)∧Upw h H[i].2) (ho:S.Pairwise (fun x y=>ltT x.1 y.1)) (hne:∀ s∈S,Gk pl s.1≠[]) (ha:∀ k,k<pl.length→∃ s∈S,s.1=pl.getD k (0,0,0)) (hdis:∀ i j,i<pl.length→j<pl.length→pl.getD i (0,0,0)=pl.getD j (0,0,0)→i≠j→h i≠h j) :
  Heap pl.length (plcA pl) h H:=by
 refine ⟨?_, ?_, ?_⟩
 ·rw [List.pairwise_iff_getElem]
  intro i j hi hj hij
  have hp:=List.pairwise_iff_getElem.1 ho i j (by omega) (by omega) hij
  rw [(hd i hi (by omega)).1,(hd j hj (by omega)).1]
  exact hp
 ·intro s hs
  obtain ⟨i,hi,rfl⟩:=List.getElem_of_mem hs
  obtain ⟨e1,e2,e3⟩:=hd i hi (by omega)
  have hm:∀ j∈H[i].2,j<pl.length∧pl.getD j (0,0,0)=H[i].1:=fun j hj=>by
   rw [e1]
   exact Gk_mem.1 (e2.mem_iff.1 hj)
  refine ⟨fun e=>?_, ?_,hm⟩
  ·rw [e] at e2
   exact hne S[i] (List.getElem_mem _) e2.symm.eq_nil
  ·have hnd:H[i].2.Nodup:=e2.nodup_iff.2 (Gk_nodup _ _)
   refine (e3.and hnd).imp_of_mem (fun {a b} ha hb hab=>?_)
   have h1:=hm a ha
   have h2:=hm b hb
   have:=hdis a b h1.1 h2.1 (by rw [h1.2,h2.2]) hab.2
   have:=hab.1
   omega
 ·intro j hj
  obtain ⟨s,hs,e⟩:=ha j hj
  obtain ⟨i,hi,rfl⟩:=List.getElem_of_mem hs
  refine ⟨H[i],List.getElem_mem (by omega), ?_⟩
  exact (hd i (by omega) hi).2.1.mem_iff.2 (Gk_mem.2 ⟨hj,e.symm⟩)
def SRowF (w:World) (base:Nat) (a:Option Addr) (S:List ((Int×Int×Int)×List (Int×Int×Int))):Prop :=
 ∀ i (h:i<S.length),∃ g sa sc,a=some ⟨g,0,none⟩∧base≤g∧w.cell? ⟨g,i*4,none⟩=some (.int .i64 S[i].1.1)∧w.cell? ⟨g,i*4+1,none⟩=some (.int .i64 S[i].1.2.1)∧w.cell? ⟨g,i*4+2,none⟩=some (.int .i64 S[i].1.2.2)∧w.cell? ⟨g,i*4+3,none⟩=some (.slice sa S[i].2.length sc)∧TRow w sa S[i].2∧∀ q,sa=some ⟨q,0,none⟩→base≤q
theorem SRowF.kept {w w':World} {base:Nat} {a:Option Addr} {S:List ((Int×Int×Int)×List (Int×Int×Int))} (h:SRowF w base a S) (hb:Below w.heap.size w w'):SRowF w' base a S:=fun i hi=>by
 obtain ⟨g,sa,sc,e,hl,c0,c1,c2,c3,ht,hq⟩:=h i hi
 exact ⟨g,sa,sc,e,hl,cl_kept hb c0,cl_kept hb c1,cl_kept hb c2,cl_kept hb c3,ht.kept hb,hq⟩
theorem SRowF.low {w:World} {base base':Nat} {a:Option Addr} {S:List ((Int×Int×Int)×List (Int×Int×Int))} (h:SRowF w base a S) (hl:base'≤base):SRowF w base' a S:=fun i hi=>by
 obtain ⟨g,sa,sc,e,h1,c0,c1,c2,c3,ht,hq⟩:=h i hi
 exact ⟨g,sa,sc,e,by omega,c0,c1,c2,c3,ht,fun q e=>by have:=hq q e;omega⟩
theorem SRowF.set {w:World} {base:Nat} {a:Option Addr} {S:List ((Int×Int×Int)×List (Int×Int×Int))} (h:SRowF w base a S) {p:Addr} {u:Value} (hp:p.block<base):SRowF (w.setCell p u) base a S:=fun i hi=>by
 obtain ⟨g,sa,sc,e,h1,c0,c1,c2,c3,ht,hq⟩:=h i hi
 exact ⟨g,sa,sc,e,h1,set_far c0 (by dsimp only;omega),set_far c1 (by dsimp only;omega),set_far c2 (by dsimp only;omega),set_far c3 (by dsimp only;omega),ht.far (fun q e=>by have:=hq q e;omega),hq⟩
theorem srow_of {w:World} {base:Nat} {v:Value} {L:List (Int×Int×Int)} {H:List ((Int×Int×Int)×List Nat)} {R:List ((Int×Int×Int)×Value)} (ho:w.ownsRow base 102 4 v R.length (rowS R)) (hl:R.length=H.length) (ht:∀ i (hi:i<R.length) (hj:i<H.length),R[i].1=H[i].1∧TrisAt w R[i].2 (tgn L H[i].2)) (hf:∀ s∈R,∀ q,s.2.ownBlock=some q→base≤q):∃ a c,v=.slice a H.length c∧SRowF w base a (H.map fun s=>(s.1,tgn L s.2)):=by
 rcases ho.2 with ⟨rfl,h0⟩ | ⟨g,cap,cur,rfl,hgb,_⟩
 ·refine ⟨none,0,by rw [← hl,h0],fun i hi=>?_⟩
  rw [List.length_map] at hi
  omega
 ·refine ⟨some ⟨g,0,none⟩,cap,by rw [hl],fun i hi=>?_⟩
  have hi2:i<H.length:=by simpa using hi
  have hi3:i<R.length:=by omega
  obtain ⟨e1,a,c,e2,e3⟩:=ht i hi3 hi2
  obtain ⟨r0,r1,r2,r3⟩:=rowS_at R i hi3
  rw [List.getElem_map]
  refine ⟨g,a,c,rfl,hgb, ?_, ?_, ?_, ?_,e3,fun q eq=>hf R[i] (List.getElem_mem hi3) q (by rw [e2,eq];rfl)⟩
  ·rw [ho.cellAt (i*4) (by omega),r0,e1]
  ·rw [ho.cellAt (i*4+1) (by omega),r1,e1]
  ·rw [ho.cellAt (i*4+2) (by omega),r2,e1]
  ·rw [ho.cellAt (i*4+3) (by omega),r3,e2]
set_option maxRecDepth 100000 in
set_option maxHeartbeats 6400000 in
theorem stacks_any (w:World) (ad pa:Option Addr) (cc ra rk gm cm pc:Nat) (L pl:List (Int×Int×Int)) (rv:Value) (h:Nat→Int) (hl:pl.length=L.length) (hT:TRow w ad L) (hP:TRow w pa pl) (h0:0<L.length) (hn:L.length≤300) (hS:∀ W,Below w.heap.size w W→SortsN W L.length rv h) (hdis:∀ i j,i<pl.length→j<pl.length→pl.getD i (0,0,0)=pl.getD j (0,0,0)→i≠j→h i≠h j) :
  Calls Tryz.prog 74 #[pileV ad L.length cc ra rk gm cm pa pc,rv] w fun e w'=>∃ a c H,e=.returned (.slice a H.length c)∧Heap L.length (plcA pl) h H∧SRowF w' w.heap.size a (H.map fun s=>(s.1,tgn L s.2))∧Below w.heap.size w w':=by
 obtain ⟨n,hnn⟩:∃ n,n=L.length:=⟨_,rfl⟩
 unfold pileV
 rw [← hnn]
 have HN:Hid (n=L.length∧pl.length=n):=⟨hnn,by omega⟩
 have hbA:Below w.heap.size w (w.alloc (.cells #[.slice ad n cc,.map (some ra),.map (some rk),.slice (some ⟨gm,0,none⟩) n cm,.slice pa n pc] 70)):=bl_alloc (bl_refl _)
 have hSN:=hS _ hbA
 have CP:Hid (Calls Tryz.prog 109 #[.agg #[.slice ad n cc,.map (some ra),.map (some rk),.slice (some ⟨gm,0,none⟩) n cm,.slice pa n pc]] (w.alloc (.cells #[.slice ad n cc,.map (some ra),.map (some rk),.slice (some ⟨gm,0,none⟩) n cm,.slice pa n pc] 70)) fun e w'=>∃ g m c S,e=.returned (.slice (some ⟨g,0,none⟩) m c)∧PiledTo (w.alloc (.cells #[.slice ad n cc,.map (some ra),.map (some rk),.slice (some ⟨gm,0,none⟩) n cm,.slice pa n pc] 70)) w' pl g m c S):=by
  have:=piled_any (w.alloc (.cells #[.slice ad n cc,.map (some ra),.map (some rk),.slice (some ⟨gm,0,none⟩) n cm,.slice pa n pc] 70)) ad (some ⟨gm,0,none⟩) pa n cc n cm pc (some ra) (some rk) pl (hP.kept hbA) (by omega) (by omega)
  rw [hl,← hnn] at this
  exact this
 have HT:Hid (TRow w ad L∧TRow w pa pl):=⟨hT,hP⟩
 have HD:Hid (∀ i j,i<pl.length→j<pl.length→pl.getD i (0,0,0)=pl.getD j (0,0,0)→i≠j→h i≠h j):=hdis
 have HSN:Hid (SortsN (w.alloc (.cells #[.slice ad n cc,.map (some ra),.map (some rk),.slice (some ⟨gm,0,none⟩) n cm,.slice pa n pc] 70)) L.length rv h):=hSN
 obtain ⟨i98,hi1,hi2,hi3,hi4⟩:=info_parts inf98
 have HI:Hid (Tryz.prog.info? 102=some i98∧i98.zero=some (.agg #[.int .i64 0,.int .i64 0,.int .i64 0,.slice none 0 0])∧i98.size=4∧i98.bytes=48):=⟨hi1,hi2,hi3,hi4⟩
 have hn3:n≤300:=by omega
 have hn0:0<n:=by omega
 clear hT hP hS hdis hSN hbA hl hnn h0 hn hi1 hi2 hi3 hi4
 go_enter Tryz.func74,Tryz.ntmps74
 go_wp2_with (go_at_call 109;refine CP.out.mono ?_;rintro e w1 ⟨g,m,c,S,rfl,hPT⟩;obtain rfl:=hPT.len;have HPT:Hid (PiledTo (w.alloc (.cells #[.slice ad n cc,.map (some ra),.map (some rk),.slice (some ⟨gm,0,none⟩) n cm,.slice pa n pc] 70)) w1 pl g S.length c S):=hPT;clear hPT)
 obtain ⟨wA,hwA⟩:∃ wA,wA=w.alloc (.cells #[.slice ad n cc,.map (some ra),.map (some rk),.slice (some ⟨gm,0,none⟩) n cm,.slice pa n pc] 70):=⟨_,rfl⟩
 have hzA:wA.heap.size=w.heap.size+1:=by rw [hwA];simp
 have HBX:Hid (wA.cell? ⟨w.heap.size,0,none⟩=some (.slice ad n cc)∧wA.cell? ⟨w.heap.size,1,none⟩=some (.map (some ra))∧wA.cell? ⟨w.heap.size,2,none⟩=some (.map (some rk))∧wA.cell? ⟨w.heap.size,3,none⟩=some (.slice (some ⟨gm,0,none⟩) n cm)∧wA.cell? ⟨w.heap.size,4,none⟩=some (.slice pa n pc)):=by
  rw [hwA]
  exact ⟨by simp [go_sem],by simp [go_sem],by simp [go_sem],by simp [go_sem],by simp [go_sem]⟩
 have HBA:Hid (Below w.heap.size w wA):=by rw [hwA];exact bl_alloc (bl_refl _)
 rw [← hwA] at HPT HSN
 obtain ⟨z,hz⟩:∃ z,z=w1.heap.size:=⟨_,rfl⟩
 have hgk:∀ e,(Gn pl pl.length e).length=(Gk pl e).length:=fun e=>by rw [Gn_eq,List.length_map];rfl
 have HFR:Hid (Far wA z g S∧wA.heap.size≤z∧(∀ s∈S,Gk pl s.1≠[])∧S.length≤300):=by
  have hgs:g<w1.heap.size:=by
   obtain ⟨s,hs,_⟩:=HPT.out.all 0 (by have:=HN.out.2;omega)
   exact World.block_lt_of_cell? _ _ (HPT.out.row 0 (List.length_pos_of_mem hs))
  refine ⟨⟨by rw [hz];exact hgs,fun s hs=>?_,HPT.out.far⟩,by rw [hz];exact HPT.out.b.size,fun s hs e=>?_, ?_⟩
  ·have h1:=(HPT.out.own s hs).lt s.2.1 rfl
   exact ⟨by rw [hz];exact h1.2,h1.1,HPT.out.off s hs⟩
  ·refine HPT.out.ne s hs ?_
   have:=hgk s.1
   rw [e] at this
   exact List.length_eq_zero_iff.1 this
  ·have h1:=sub_lenT (S.map (fun s=>s.1)) pl (by
    refine List.pairwise_map.2 (HPT.out.ord.imp ?_)
    intro a b h e
    exact ltT_irr b.1 (by rw [e] at h;exact h)) (fun e he=>by
    obtain ⟨s,hs,rfl⟩:=List.mem_map.1 he
    have hne:=HPT.out.ne s hs
    rw [Gn_eq] at hne
    obtain ⟨k,hk⟩:=List.exists_mem_of_ne_nil (Gk pl s.1) (fun e=>hne (by show List.map _ (Gk pl s.1)=[];rw [e];rfl))
    have:=Gk_mem.1 hk
    rw [← this.2,List.getD_eq_getElem?_getD,List.getElem?_eq_getElem this.1]
    exact List.getElem_mem _)
   rw [List.length_map] at h1
   have:=HN.out.2
   omega
 have HS0:Hid (STW wA w1 z g (.slice none 0 0) L pl h S 0 [] []):=by
  have:STW wA w1 z g (.slice none 0 0) L pl h S 0 [] []:=by
   refine ⟨fun i hi=>?_,fun i hi _=>own_nw (HPT.out.own S[i] (List.getElem_mem hi)),⟨by simp [rowS],Or.inl ⟨rfl,rfl⟩⟩,⟨rfl,rfl⟩,fun i hi=>by simp at hi,fun s hs=>by simp at hs,fun i hi=>by simp at hi,HPT.out.b,by omega⟩
   rw [HPT.out.row i hi,hgk]
  exact this
 clear hwA hz
 go_wp2
 go_loopg [5,11] S.length (fun gk s5 s11 wx=>∃ (k:Nat) (v:Value) (H:List ((Int×Int×Int)×List Nat)) (R:List ((Int×Int×Int)×Value)),k≤S.length∧gk=S.length - k∧v=s5∧s11=.int .i64 (k:Int)∧STW wA wx z g v L pl h S k H R)
 case atStart=>exact ⟨0,_,[],[],by omega,rfl,rfl,rfl,HS0.out⟩
 case round =>
  clear HS0
  obtain ⟨k,v,H,R,hk,rfl,rfl,rfl,hW⟩:=hrel
  have HW:Hid (STW wA wr z g v L pl h S k H R):=hW
  clear hW
  by_cases h1:k<S.length
  ·have i1:(k:Int)<(S.length:Int):=by omega
   have i0:(0:Int)≤(k:Int):=by omega
   have c0:=HW.out.row k h1
   have zg:g<wr.heap.size:=World.block_lt_of_cell? _ _ c0
   have hSk:=HFR.out.1.s S[k] (List.getElem_mem h1)
   have hNe:=HFR.out.2.2.1 S[k] (List.getElem_mem h1)
   have CS:=HSN.out wr S[k].2.1 S[k].2.2 (Gk pl S[k].1) HW.out.b hSk.2.1 hNe (by have:=Gk_len pl S[k].1;have:=HN.out.2;omega) (fun j hj=>by have:=(Gk_mem.1 hj).1;have:=HN.out;omega) (HW.out.left k h1 (Nat.le_refl _))
   obtain ⟨gb,hgb⟩:∃ gb,gb=S[k].2.1:=⟨_,rfl⟩
   obtain ⟨cb,hcb⟩:∃ cb,cb=S[k].2.2:=⟨_,rfl⟩
   obtain ⟨nb,hnb⟩:∃ nb,nb=(Gk pl S[k].1).length:=⟨_,rfl⟩
   rw [← hgb,← hcb,← hnb] at c0 CS
   have HCS:Hid (Calls Tryz.prog 110 #[.slice (some ⟨gb,0,none⟩) nb cb,.func (.func 111) #[rv] #[]] wr fun e w'=>e=.returned (.tuple #[])∧∃ R':List Nat,R'.Perm (Gk pl S[k].1)∧Upw h R'∧NW w' gb R'∧wr.grownBy w' (some gb)):=CS
   have HGB:Hid (gb=S[k].2.1∧cb=S[k].2.2∧nb=(Gk pl S[k].1).length):=⟨hgb,hcb,hnb⟩
   clear CS hSk hgb hcb hnb hNe
   go_wp2_with (go_at_call 110;refine HCS.out.mono ?_;rintro e w2 ⟨rfl,R',hp,hs,hN,hg2⟩;have HR':Hid (R'.Perm (Gk pl S[k].1)∧Upw h R'∧NW w2 gb R'∧wr.grownBy w2 (some gb)):=⟨hp,hs,hN,hg2⟩;clear hp hs hN hg2)
   have hSk:=HFR.out.1.s S[k] (List.getElem_mem h1)
   have hNe:=HFR.out.2.2.1 S[k] (List.getElem_mem h1)
   have hb2:Below wA.heap.size wA w2:=HW.out.b.grown HR'.out.2.2.2 HW.out.b.size (fun r e=>by cases e;rw [HGB.out.1];exact hSk.2.1)
   have hbw:Below w.heap.size w w2:=HBA.out.trans (hb2.mono HBA.out.size)
   have p0:=cl_kept hb2 HBX.out.1
   have p1:=cl_kept hb2 HBX.out.2.1
   have p2:=cl_kept hb2 HBX.out.2.2.1
   have p3:=cl_kept hb2 HBX.out.2.2.2.1
   have p4:=cl_kept hb2 HBX.out.2.2.2.2
   have hRl:R'.length=nb:=by rw [HGB.out.2.2];exact HR'.out.1.length_eq
   have hRne:R'≠[]:=fun e=>hNe (by have:=HR'.out.1;rw [e] at this;exact this.symm.eq_nil)
   have hRp:0<R'.length:=List.length_pos_iff.2 hRne
   obtain ⟨j,hj⟩:∃ j,j=R'[0]:=⟨_,rfl⟩
   have r0:=(HR'.out.2.2.1 0 hRp).1
   have hjm:=Gk_mem.1 (HR'.out.1.mem_iff.1 (List.getElem_mem hRp))
   rw [← hj] at r0 hjm
   obtain ⟨gp,rfl,t0,t1,t2⟩:=(HT.out.2.kept hbw) j hjm.1
   have hpj:pl[j]=S[k].1:=by rw [← hjm.2,List.getD_eq_getElem?_getD,List.getElem?_eq_getElem hjm.1];rfl
   rw [hpj] at t0 t1 t2
   obtain ⟨x,hx⟩:∃ x,x=S[k].1.1:=⟨_,rfl⟩
   obtain ⟨y,hy⟩:∃ y,y=S[k].1.2.1:=⟨_,rfl⟩
   obtain ⟨t,ht⟩:∃ t,t=S[k].1.2.2:=⟨_,rfl⟩
   rw [← hx] at t0
   rw [← hy] at t1
   rw [← ht] at t2
   have HXY:Hid (x=S[k].1.1∧y=S[k].1.2.1∧t=S[k].1.2.2):=⟨hx,hy,ht⟩
   have j1:(j:Int)<(n:Int):=by have:=HN.out.2;have:=hjm.1;omega
   have j0:(0:Int)≤(j:Int):=by omega
   have nb0:(0:Int)<(nb:Int):=by omega
   have nbp:0<nb:=by omega
   have zp:w.heap.size<w2.heap.size:=World.block_lt_of_cell? _ _ p0
   have zb:gb<w2.heap.size:=World.block_lt_of_cell? _ _ r0
   have zt:gp<w2.heap.size:=World.block_lt_of_cell? _ _ t0
   have CN:Hid (∀ W:World,Below w2.heap.size w2 W→Calls Tryz.prog 112 #[.agg #[.slice ad n cc,.map (some ra),.map (some rk),.slice (some ⟨gm,0,none⟩) n cm,.slice (some ⟨gp,0,none⟩) n pc],.slice (some ⟨gb,0,none⟩) nb cb] W fun e w'=>∃ a c,e=.returned (.slice a nb c)∧TRow w' a (tgn L R')∧Below W.heap.size W w'∧∀ g,a=some ⟨g,0,none⟩→W.heap.size≤g∧g<w'.heap.size):=fun W hW=>by
    have:=named_any W ad cc ra rk gm cm pc gb 0 cb (some ⟨gp,0,none⟩) L R' ((HT.out.1.kept hbw).kept hW) (fun i hi=>by rw [Nat.zero_add];exact cl_kept hW (HR'.out.2.2.1 i hi).1) (fun j hj=>by have:=(Gk_mem.1 (HR'.out.1.mem_iff.1 hj)).1;have:=HN.out;omega) (by have:=HN.out;have:=Gk_len pl S[k].1;have:=HGB.out.2.2;omega) (by have:=HN.out.1;omega)
    unfold pileV at this
    rw [← HN.out.1,hRl] at this
    exact this
   have HRN:Hid (R'≠[]∧R'.length=nb):=⟨hRne,hRl⟩
   have HRk:Hid (R.length=k):=HW.out.len.1
   have hz2:z≤w2.heap.size:=Nat.le_trans HW.out.zz HR'.out.2.2.2.size
   have HOW:Hid (w2.ownsRow z 102 4 v R.length (rowS R)):=HW.out.own.kept HR'.out.2.2.2 (by
    cases hu:v.ownBlock with
    | none=>exact Or.inl rfl
    | some q =>
     refine Or.inr (fun e1=>?_)
     have h5:=(HW.out.own.lt q hu).1
     have h6:=HGB.out.1
     have h7:=hSk.1
     simp at e1
     omega)
   have hk3:k≤300:=by have:=HFR.out.2.2.2;omega
   have HNV:Hid (∀ b,b<z→some b≠v.ownBlock):=fun b hb e=>by have:=(HW.out.own.lt b e.symm).1;omega
   have zz0:w.heap.size<z:=by have:=HFR.out.2.1;omega
   have zz1:gb<z:=by rw [HGB.out.1];exact hSk.1
   have zz2:gp<z:=by
    obtain ⟨g',e9,u0,_⟩:=HT.out.2 j hjm.1
    cases e9
    have u9:gp<w.heap.size:=World.block_lt_of_cell? _ _ u0
    omega
   clear hx hy ht hpj hjm hRl hRne hRp hj hb2 hbw hSk hNe
   go_region_held3 (fun w'=>w'.cell? ⟨w.heap.size,0,none⟩=some (.slice ad n cc)∧w'.cell? ⟨w.heap.size,1,none⟩=some (.map (some ra))∧w'.cell? ⟨w.heap.size,2,none⟩=some (.map (some rk))∧w'.cell? ⟨w.heap.size,3,none⟩=some (.slice (some ⟨gm,0,none⟩) n cm)∧w'.cell? ⟨w.heap.size,4,none⟩=some (.slice (some ⟨gp,0,none⟩) n pc)∧w'.cell? ⟨gb,0,none⟩=some (.int .i64 (j:Int))∧w'.cell? ⟨gp,j*3,none⟩=some (.int .i64 x)∧w'.cell? ⟨gp,j*3+1,none⟩=some (.int .i64 y)∧w'.cell? ⟨gp,j*3+2,none⟩=some (.int .i64 t))
    ((refine ⟨?_, ?_, ?_, ?_, ?_, ?_, ?_, ?_, ?_⟩ <;> (first | (with_reducible (repeat (first | assumption | refine al_old ?_ | refine dr_old ?_));done) | (simp [go_sem];done))))
    (first
     | (go_at_call 112;refine (CN.out _ (by with_reducible repeat (first | exact bl_refl _ | refine bl_drew ?_))).mono ?_;rintro e w8 ⟨a8,c8,rfl,hT8,hb8,hf8⟩;have hq8:Below w2.heap.size w2 w8:=bl_via (by with_reducible repeat (first | exact bl_refl _ | refine bl_drew ?_)) hb8;have HQ:Hid (TRow w8 a8 (tgn L R')∧Below w2.heap.size w2 w8∧∀ g,a8=some ⟨g,0,none⟩→w2.heap.size≤g∧g<w8.heap.size):=⟨hT8,hq8,hf8⟩;have p0_8:=cl_kept hq8 p0;have p1_8:=cl_kept hq8 p1;have p2_8:=cl_kept hq8 p2;have p3_8:=cl_kept hq8 p3;have p4_8:=cl_kept hq8 p4;have r0_8:=cl_kept hq8 r0;have t0_8:=cl_kept hq8 t0;have t1_8:=cl_kept hq8 t1;have t2_8:=cl_kept hq8 t2;have hz8:z≤w8.heap.size:=Nat.le_trans hz2 hq8.size;clear hT8 hb8 hf8 hq8)
     | (refine step_append_lies _ (by rfl) (.tmp 19) (.tmp 31) 27 (by rfl) z 102 i98 (.agg #[.int .i64 0,.int .i64 0,.int .i64 0,.slice none 0 0]) 4 48 Tryz.underlying27 HI.out.1 HI.out.2.1 HI.out.2.2.1 HI.out.2.2.2 rfl (by decide) v R.length (rowS R) (by rfl) (own_below HOW.out (bl_alloc HQ.out.2.1)) ⟨w8.heap.size,0,none⟩ 1 1 [.int .i64 x,.int .i64 y,.int .i64 t,.slice a8 nb c8] (by rfl) rfl (cell_four _ _ _ _ _ _) (four_one _ _ _ _ _ _) (by decide) (by have:=HRk.out;unfold maxLen;omega) (by have:=HRk.out;omega) (by simp;omega) (w8.heap.size+1) (by simp) ?_;intro gq cap W3 hown3 hgrow hat hlt;have s0:=hgrow.cell (al_old p0_8) (HNV.out _ zz0);have s1:=hgrow.cell (al_old p1_8) (HNV.out _ zz0);have s2:=hgrow.cell (al_old p2_8) (HNV.out _ zz0);have s3:=hgrow.cell (al_old p3_8) (HNV.out _ zz0);have s4:=hgrow.cell (al_old p4_8) (HNV.out _ zz0);have s5:=hgrow.cell (al_old r0_8) (HNV.out _ zz1);have s6:=hgrow.cell (al_old t0_8) (HNV.out _ zz2);have s7:=hgrow.cell (al_old t1_8) (HNV.out _ zz2);have s8:=hgrow.cell (al_old t2_8) (HNV.out _ zz2);have HW3:Hid (STW wA W3 z g (.slice (some ⟨gq,0,none⟩) (R.length+1) cap) L pl h S (k+1) (H ++ [(S[k].1,R')]) (R ++ [(S[k].1,.slice a8 nb c8)])):=(HW.out.next h1 HFR.out.1 HFR.out.2.1 (HGB.out.1 ▸ HR'.out.2.2.2) HR'.out.1 HR'.out.2.1 HQ.out.2.1 HQ.out.1 (by rw [← HRN.out.2];simp [tgn]) HQ.out.2.2 hgrow (by rw [← HXY.out.1,← HXY.out.2.1,← HXY.out.2.2];exact hown3) hat HRN.out.1);clear hown3 hgrow hat))
   all_goals
    go_wp2
    go_roundg (S.length - (k+1))
    case measure=>omega
    case rel=>exact ⟨k+1,_,_,_,by omega,rfl,rfl,by go_num,HW3.out⟩
  ·have i1:¬ (k:Int)<(S.length:Int):=by omega
   obtain rfl:k=S.length:=by omega
   obtain ⟨a,c9,rfl,hSR⟩:=srow_of HW.out.own (by rw [HW.out.len.1,HW.out.len.2]) HW.out.tris (fun s hs q hq=>(HW.out.off s hs q hq).1)
   have HE:Hid (Heap n (plcA pl) h H∧SRowF wr w.heap.size a (H.map fun s=>(s.1,tgn L s.2))∧Below w.heap.size w wr):=by
    refine ⟨?_,hSR.low (by have:=HFR.out.2.1;omega),HBA.out.trans (HW.out.b.mono HBA.out.size)⟩
    have:=heap_of (L:=L) HW.out.len.2 HW.out.done HPT.out.ord HFR.out.2.2.1 HPT.out.all HD.out
    rw [HN.out.2] at this
    exact this
   clear hSR
   go_wp2
   go_ret
   exact ⟨a,c9,H,rfl,HE.out⟩
open Go.RowKit
def rowM (M:Nat→M6):Nat→List Value
 | 0=>[]
 | n+1=>rowM M n ++ [.int .i64 (M n).1,.int .i64 (M n).2.1,.int .i64 (M n).2.2.1,.int .i64 (M n).2.2.2.1,.int .i64 (M n).2.2.2.2.1,.int .i64 (M n).2.2.2.2.2]
theorem rowM_len (M:Nat→M6):∀ n,(rowM M n).length=n*6
 | 0=>rfl
 | n+1=>by
  unfold rowM
  rw [List.length_append,rowM_len M n]
  simp
  omega
theorem rowM_at (M:Nat→M6):∀ n i,i<n→(rowM M n)[i*6]?=some (.int .i64 (M i).1)∧(rowM M n)[i*6+1]?=some (.int .i64 (M i).2.1)∧(rowM M n)[i*6+2]?=some (.int .i64 (M i).2.2.1)∧(rowM M n)[i*6+3]?=some (.int .i64 (M i).2.2.2.1)∧(rowM M n)[i*6+4]?=some (.int .i64 (M i).2.2.2.2.1)∧(rowM M n)[i*6+5]?=some (.int .i64 (M i).2.2.2.2.2)
 | 0,i,h=>by omega
 | n+1,i,h=>by
  unfold rowM
  have hl:=rowM_len M n
  by_cases q:i<n
  ·obtain ⟨h0,h1,h2,h3,h4,h5⟩:=rowM_at M n i q
   refine ⟨?_, ?_, ?_, ?_, ?_, ?_⟩ <;> (rw [List.getElem?_append_left (by omega)];assumption)
  ·have e:i=n:=by omega
   subst e
   refine ⟨?_, ?_, ?_, ?_, ?_, ?_⟩ <;> (rw [List.getElem?_append_right (by omega),hl];simp [Nat.add_sub_cancel_left])
theorem rowM_one (M:Nat→M6):∀ n,∀ u∈rowM M n,u.oneCell'=true
 | 0,u,h=>by simp [rowM] at h
 | n+1,u,h=>by
  unfold rowM at h
  rcases List.mem_append.1 h with h | h
  ·exact rowM_one M n u h
  ·simp at h
   rcases h with rfl | rfl | rfl | rfl | rfl | rfl <;> rfl
theorem mrow_cells {w:World} {g n:Nat} {M:Nat→M6} (h:MRow w g n M):∀ j u,(rowM M n)[j]?=some u→w.cell? ((⟨g,0,none⟩:Addr).add j)=some u:=by
 intro j u hu
 have hadd:(⟨g,0,none⟩:Addr).add j=⟨g,j,none⟩:=by unfold Addr.add;split <;> simp_all
 rw [hadd]
 have hj:j<n*6:=by
  have:=(List.getElem?_eq_some_iff.1 hu).1
  rw [rowM_len] at this
  exact this
 have hi:j / 6<n:=by omega
 obtain ⟨r0,r1,r2,r3,r4,r5⟩:=rowM_at M n (j / 6) hi
 obtain ⟨⟨c0,c1,c2,c3,c4,c5⟩,_⟩:=h (j / 6) hi
 have h6:j % 6=0∨j % 6=1∨j % 6=2∨j % 6=3∨j % 6=4∨j % 6=5:=by omega
 rcases h6 with q | q | q | q | q | q
 ·have e:j=j / 6*6:=by omega
  rw [e] at hu ⊢
  rw [r0] at hu
  rw [← hu]
  exact c0
 ·have e:j=j / 6*6+1:=by omega
  rw [e] at hu ⊢
  rw [r1] at hu
  rw [← hu]
  exact c1
 ·have e:j=j / 6*6+2:=by omega
  rw [e] at hu ⊢
  rw [r2] at hu
  rw [← hu]
  exact c2
 ·have e:j=j / 6*6+3:=by omega
  rw [e] at hu ⊢
  rw [r3] at hu
  rw [← hu]
  exact c3
 ·have e:j=j / 6*6+4:=by omega
  rw [e] at hu ⊢
  rw [r4] at hu
  rw [← hu]
  exact c4
 ·have e:j=j / 6*6+5:=by omega
  rw [e] at hu ⊢
  rw [r5] at hu
  rw [← hu]
  exact c5
theorem own_mrow {w:World} {base n:Nat} {v:Value} {M:Nat→M6} (h:w.ownsRow base 89 6 v n (rowM M n)) (hn:0<n):∃ g c,v=.slice (some ⟨g,0,none⟩) n c∧MRow w g n M∧base≤g:=by
 rcases h.2 with ⟨_,h0⟩ | ⟨g,cap,cur,rfl,hb,h3,_⟩
 ·omega
 ·have hf:∀ o,w.frozen? ⟨g,o,none⟩=false:=fun o=>by simp [World.frozen?,h3]
  refine ⟨g,cap,rfl,fun i hi=>⟨?_,⟨hf _,hf _,hf _,hf _,hf _,hf _⟩⟩,hb⟩
  obtain ⟨r0,r1,r2,r3,r4,r5⟩:=rowM_at M n i hi
  refine ⟨?_, ?_, ?_, ?_, ?_, ?_⟩
  ·rw [h.cellAt (i*6) (by omega),r0]
  ·rw [h.cellAt (i*6+1) (by omega),r1]
  ·rw [h.cellAt (i*6+2) (by omega),r2]
  ·rw [h.cellAt (i*6+3) (by omega),r3]
  ·rw [h.cellAt (i*6+4) (by omega),r4]
  ·rw [h.cellAt (i*6+5) (by omega),r5]
theorem cloneM_any (w:World) (g n c:Nat) (M:Nat→M6) (hM:MRow w g n M) (h0:0<n) (hn:n≤300) :
  Calls Tryz.prog 73 #[.slice (some ⟨g,0,none⟩) n c] w fun e w'=>∃ g' c',e=.returned (.slice (some ⟨g',0,none⟩) n c')∧MRow w' g' n M∧w.heap.size≤g'∧Below w.heap.size w w':=by
 refine (clone_maps w g 0 n c (rowM M n) (rowM_len M n) (mrow_cells hM) (rowM_one M n) (by omega)).mono ?_
 rintro e w' ⟨v,rfl,ho,hb⟩
 obtain ⟨g',c',rfl,h1,h2⟩:=own_mrow ho h0
 exact ⟨g',c',rfl,h1,h2,hb⟩
end Go.Proofs.YtgpjaecgkkgehaaGreatDoor
