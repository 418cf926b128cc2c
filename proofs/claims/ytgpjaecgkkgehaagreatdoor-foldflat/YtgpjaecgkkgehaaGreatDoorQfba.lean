/- A part of the proof of foldFlat_holds. -/
import Derived.Test.YtgpjaecgkkgehaaGreatDoorQfax
import Derived.Test.YtgpjaecgkkgehaaGreatDoorQfaz
import Derived.Test.YtgpjaecgkkgehaaGreatDoorQfas
namespace Go.Proofs.YtgpjaecgkkgehaaGreatDoor
open Go.RowKit Go.Shelf Go.ChangeMaps
def Gn (pl:List (Int×Int×Int)):Nat→Int×Int×Int→List Int
 | 0,_=>[]
 | i+1,e=>if e=pl.getD i (0,0,0) then Gn pl i (pl.getD i (0,0,0)) ++ [(i:Int)] else Gn pl i e
theorem Gn_len (pl:List (Int×Int×Int)):∀ i e,(Gn pl i e).length≤i
 | 0,e=>by simp [Gn]
 | i+1,e=>by
  unfold Gn
  split
  ·rw [List.length_append,List.length_singleton]
   have:=Gn_len pl i (pl.getD i (0,0,0))
   omega
  ·have:=Gn_len pl i e
   omega
theorem Gn_mem (pl:List (Int×Int×Int)) (e:Int×Int×Int):∀ i (k:Nat),(k:Int)∈Gn pl i e↔k<i∧pl.getD k (0,0,0)=e
 | 0,k=>by simp [Gn]
 | i+1,k=>by
  unfold Gn
  by_cases q:e=pl.getD i (0,0,0)
  ·rw [if_pos q,← q,List.mem_append,Gn_mem pl e i k]
   constructor
   ·rintro (h | h)
    ·exact ⟨by omega,h.2⟩
    ·simp at h
     have:k=i:=by omega
     subst this
     exact ⟨by omega,q.symm⟩
   ·rintro ⟨h1,h2⟩
    by_cases q2:k<i
    ·exact Or.inl ⟨q2,h2⟩
    ·have:k=i:=by omega
     subst this
     exact Or.inr (by simp)
  ·rw [if_neg q,Gn_mem pl e i k]
   constructor
   ·rintro ⟨h1,h2⟩
    exact ⟨by omega,h2⟩
   ·rintro ⟨h1,h2⟩
    refine ⟨?_,h2⟩
    by_cases q2:k<i
    ·exact q2
    ·have:k=i:=by omega
     subst this
     exact absurd h2.symm q
theorem Gn_nat (pl:List (Int×Int×Int)):∀ i e,∀ x∈Gn pl i e,∃ k:Nat,x=(k:Int)
 | 0,e,x,h=>by simp [Gn] at h
 | i+1,e,x,h=>by
  unfold Gn at h
  split at h
  ·rcases List.mem_append.1 h with h | h
   ·exact Gn_nat pl i _ x h
   ·simp at h
    exact ⟨i,h⟩
  ·exact Gn_nat pl i e x h
theorem sub_lenT {α:Type} [DecidableEq α]:∀ (l m:List α),l.Nodup→(∀ x∈l,x∈m)→l.length≤m.length
 | [],_,_,_=>by simp
 | x :: r,b,h,hs=>by
  rw [List.nodup_cons] at h
  have hx:=hs x (by simp)
  have h1:=sub_lenT r (b.erase x) h.2 (fun y hy=>by
   have hne:y≠x:=fun e=>h.1 (e ▸ hy)
   exact (List.mem_erase_of_ne hne).2 (hs y (by simp [hy])))
  rw [List.length_erase_of_mem hx] at h1
  have:=List.length_pos_of_mem hx
  rw [List.length_cons]
  omega
structure PLW (w wx:World) (rm n pc:Nat) (pa:Option Addr) (pl:List (Int×Int×Int)) (i:Nat):Prop where
 m:TGP wx (w.heap.size+2) rm (.slice none 0 0) (Gn pl i)
 p:wx.cell? ⟨w.heap.size,4,none⟩=some (.slice pa n pc)
 b:Below w.heap.size w wx
def blkOf:Value→Nat
 | .slice (some a) _ _=>a.block
 | _=>0
def capOf:Value→Nat
 | .slice _ _ c=>c
 | _=>0
structure PiledTo (w w':World) (pl:List (Int×Int×Int)) (g m c:Nat) (S:List ((Int×Int×Int)×Nat×Nat)):Prop where
 len:S.length=m
 ord:S.Pairwise (fun x y=>ltT x.1 y.1)
 row:∀ i (hi:i<S.length),w'.cell? ⟨g,i,none⟩=some (.slice (some ⟨S[i].2.1,0,none⟩) (Gn pl pl.length S[i].1).length S[i].2.2)
 own:∀ s∈S,w'.ownsRow w.heap.size 3 1 (.slice (some ⟨s.2.1,0,none⟩) (Gn pl pl.length s.1).length s.2.2) (Gn pl pl.length s.1).length ((Gn pl pl.length s.1).map (Value.int .i64))
 ne:∀ s∈S,Gn pl pl.length s.1≠[]
 all:∀ k,k<pl.length→∃ s∈S,s.1=pl.getD k (0,0,0)
 far:S.Pairwise (fun x y=>x.2.1≠y.2.1)
 off:∀ s∈S,s.2.1≠g
 b:Below w.heap.size w w'
theorem Tlk_of {ls:List ((Int×Int×Int)×Value×Nat)} {c:Nat} (hG:TGood ls c) {x:((Int×Int×Int)×Value×Nat)} (hx:x∈ls):Tlk ls x.1=some x.2.1:=by
 have h1:=hG.1
 clear hG
 induction ls with
 | nil=>cases hx
 | cons y r ih =>
  rw [List.map_cons,List.nodup_cons] at h1
  unfold Tlk
  rcases List.mem_cons.1 hx with rfl | hx
  ·rw [if_pos rfl]
  ·have:y.1≠x.1:=fun e=>h1.1 (e ▸ List.mem_map.2 ⟨x,hx,rfl⟩)
   rw [if_neg this]
   exact ih hx h1.2
theorem Tlk_some {ls:List ((Int×Int×Int)×Value×Nat)} {k:Int×Int×Int} {v:Value} (h:Tlk ls k=some v):∃ x∈ls,x.1=k∧x.2.1=v:=by
 induction ls with
 | nil=>cases h
 | cons y r ih =>
  unfold Tlk at h
  by_cases q:y.1=k
  ·rw [if_pos q] at h
   simp at h
   exact ⟨y,by simp,q,h⟩
  ·rw [if_neg q] at h
   obtain ⟨x,hx,e⟩:=ih h
   exact ⟨x,by simp [hx],e⟩
set_option maxRecDepth 100000 in
set_option maxHeartbeats 3200000 in
theorem piled_any (w:World) (ad ma pa:Option Addr) (na ca nm cm pc:Nat) (ra rk:Option Nat) (pl:List (Int×Int×Int)) (hT:TRow w pa pl) (h0:0<pl.length) (hn:pl.length≤300) :
  Calls Tryz.prog 109 #[.agg #[.slice ad na ca,.map ra,.map rk,.slice ma nm cm,.slice pa pl.length pc]] w fun e w'=>∃ g m c S,e=.returned (.slice (some ⟨g,0,none⟩) m c)∧PiledTo w w' pl g m c S:=by
 obtain ⟨gp,rfl⟩:∃ gp,pa=some ⟨gp,0,none⟩:=by
  obtain ⟨g,e,_⟩:=hT 0 h0
  exact ⟨g,e⟩
 have HT:Hid (TRow w (some ⟨gp,0,none⟩) pl):=hT
 obtain ⟨i3,hi3,hz30,hz31,hz32⟩:=info_parts inf3
 have HI:Hid (Tryz.prog.info? 3=some i3∧i3.zero=some (.int .i64 0)∧i3.size=1∧i3.bytes=8):=⟨hi3,hz30,hz31,hz32⟩
 obtain ⟨n,hnl⟩:∃ n,n=pl.length:=⟨_,rfl⟩
 have HNL:Hid (n=pl.length):=hnl
 have hn3:n≤300:=by omega
 have h0n:0<n:=by omega
 rw [← hnl]
 clear hT hi3 hz30 hz31 hz32 hnl h0 hn
 have hmm:=@run_makeMap Tryz.prog
 go_enter Tryz.func109,Tryz.ntmps109
 go_wp2
 obtain ⟨W1,hW1⟩:∃ W1,W1=(w.alloc (.cells #[.slice ad na ca,.map ra,.map rk,.slice ma nm cm,.slice (some ⟨gp,0,none⟩) n pc] 70)).alloc (.map #[] 0):=⟨_,rfl⟩
 have HP1:Hid (PLW w W1 (w.heap.size+1) n pc (some ⟨gp,0,none⟩) pl 0):=by
  have:PLW w W1 (w.heap.size+1) n pc (some ⟨gp,0,none⟩) pl 0:=by
   rw [hW1]
   refine ⟨⟨[],0, ?_,⟨by simp,by simp,by simp⟩,fun e _=>rfl,fun e v h=>by simp [Tlk] at h,fun e e' v v' _ h=>by simp [Tlk] at h⟩,by simp [go_sem],bl_alloc (bl_alloc (bl_refl _))⟩
   have h9:=heap_alloc_new (w.alloc (.cells #[.slice ad na ca,.map ra,.map rk,.slice ma nm cm,.slice (some ⟨gp,0,none⟩) n pc] 70)) (.map #[] 0)
   rw [World.size_alloc] at h9
   exact h9
  exact this
 rw [← hW1]
 clear hW1 hmm
 go_loopg [10] n (fun gk s10 wx=>∃ i:Nat,i≤n∧gk=n - i∧s10=.int .i64 (i:Int)∧PLW w wx (w.heap.size+1) n pc (some ⟨gp,0,none⟩) pl i)
 case atStart=>exact ⟨0,by omega,rfl,rfl,HP1.out⟩
 case round =>
  clear HP1
  obtain ⟨i,hi,rfl,rfl,hP⟩:=hrel
  have HP:Hid (PLW w wr (w.heap.size+1) n pc (some ⟨gp,0,none⟩) pl i):=hP
  clear hP
  by_cases h1:i<n
  ·have i1:(i:Int)<(n:Int):=by omega
   have i0:(0:Int)≤(i:Int):=by omega
   have hil:i<pl.length:=by rw [← HNL.out];exact h1
   obtain ⟨g',eg,q0,q1,q2⟩:=(HT.out.kept HP.out.b) i hil
   cases eg
   obtain ⟨t,ht⟩:∃ t,t=pl[i]:=⟨_,rfl⟩
   obtain ⟨x,y,z⟩:=t
   rw [← ht] at q0 q1 q2
   dsimp only at q0 q1 q2
   have hgt:pl.getD i (0,0,0)=(x,y,z):=by rw [List.getD_eq_getElem?_getD,List.getElem?_eq_getElem hil,ht];rfl
   have zg:gp<wr.heap.size:=World.block_lt_of_cell? _ _ q0
   obtain ⟨v0,st,W2,hrun,hg2,hz2,hown,hback⟩:=(HP.out.m.kept (w':=(wr.alloc (.cells #[.int .i64 x,.int .i64 y,.int .i64 z] 56)).alloc (.cells #[.int .i64 (i:Int)] 3)) (bl_alloc (bl_alloc (bl_refl _)))).entry (by omega) (fun g h=>by simp [Value.ownBlock] at h) (x,y,z) (i:Int)
   have hrun':(Instr.mapEntry 200 (.map (some (w.heap.size+1))) (.agg #[.int .i64 x,.int .i64 y,.int .i64 z])).run Tryz.prog ((wr.alloc (.cells #[.int .i64 x,.int .i64 y,.int .i64 z] 56)).alloc (.cells #[.int .i64 (i:Int)] 3))=.ok (.tuple #[v0,.int .i64 st]) W2:=hrun
   have hW2:W2.heap.size=wr.heap.size+2:=by rw [hz2];simp
   have hm1:w.heap.size+1<wr.heap.size:=by
    obtain ⟨ls,c,h,_⟩:=HP.out.m
    exact h.lt
   have hnw:W2.cell? ⟨wr.heap.size+1,0,none⟩=some (.int .i64 (i:Int)):=hg2.cell (by simp [go_sem]) (fun e=>by simp at e;omega)
   have HGL:Hid ((Gn pl i (x,y,z)).length≤300):=by
    have:=Gn_len pl i (x,y,z)
    have:(Gn pl i (x,y,z)).length≤300:=by omega
    exact this
   have HOW:Hid (W2.ownsRow (w.heap.size+2) 3 1 v0 (Gn pl i (x,y,z)).length ((Gn pl i (x,y,z)).map (Value.int .i64))):=hown
   have hp2:W2.cell? ⟨w.heap.size,4,none⟩=some (.slice (some ⟨gp,0,none⟩) n pc):=hg2.cell (cl_kept (bl_alloc (bl_alloc (bl_refl _))) HP.out.p) (fun e=>by simp at e)
   have hb2:Below w.heap.size w W2:=by
    have k1:Below w.heap.size w ((wr.alloc (.cells #[.int .i64 x,.int .i64 y,.int .i64 z] 56)).alloc (.cells #[.int .i64 (i:Int)] 3)):=bl_alloc (bl_alloc HP.out.b)
    exact k1.grown hg2 k1.size (fun r e=>by cases e;omega)
   have HBK:Hid (∀ g cap W3,W2.grownBy W3 v0.ownBlock→W3.ownsRow (w.heap.size+2) 3 1 (.slice (some ⟨g,0,none⟩) ((Gn pl i (x,y,z)).length+1) cap) ((Gn pl i (x,y,z)).length+1) ((Gn pl i (x,y,z)).map (Value.int .i64) ++ [.int .i64 (i:Int)])→(v0.ownBlock=some g∨g=wr.heap.size+2) →
     ∃ W4,(Instr.entryStore 200 (.map (some (w.heap.size+1))) (.int .i64 st) (.slice (some ⟨g,0,none⟩) ((Gn pl i (x,y,z)).length+1) cap)).run Tryz.prog W3=.ok () W4∧PLW w W4 (w.heap.size+1) n pc (some ⟨gp,0,none⟩) pl (i+1)):=fun g cap W3 u1 u2 u3=>by
    obtain ⟨W4,s1,s2,s3⟩:=hback (.slice (some ⟨g,0,none⟩) ((Gn pl i (x,y,z)).length+1) cap) W3 u1 u2 (u3.imp (fun q=>q.symm) (fun q=>by rw [q,hW2];rfl))
    have nb:∀ r,v0.ownBlock=some r→w.heap.size+2≤r:=fun r e=>(hown.lt r e).1
    have k3:Below w.heap.size w W3:=hb2.grown u1 hb2.size (fun r e=>by have:=nb r e;omega)
    refine ⟨W4,s1, ?_,s2.cell (u1.cell hp2 (fun e=>by have:=nb _ e.symm;dsimp only at this;omega)) (fun e=>by simp at e),k3.grown s2 k3.size (fun r e=>by cases e;omega)⟩
    have e9:(fun j=>if j=(x,y,z) then Gn pl i (x,y,z) ++ [(i:Int)] else Gn pl i j)=Gn pl (i+1):=by
     funext j
     show _=if j=pl.getD i (0,0,0) then Gn pl i (pl.getD i (0,0,0)) ++ [(i:Int)] else Gn pl i j
     rw [hgt]
    rw [e9] at s3
    exact s3
   obtain ⟨nG,hnG⟩:∃ m,m=(Gn pl i (x,y,z)).length:=⟨_,rfl⟩
   obtain ⟨xG,hxG⟩:∃ m,m=(Gn pl i (x,y,z)).map (Value.int .i64):=⟨_,rfl⟩
   rw [← hnG,← hxG] at HOW HBK
   rw [← hnG] at HGL
   clear hown hback hrun hg2 hz2 hgt ht hnG hxG hb2 hp2 hil
   go_wp2_with (at_builtin;refine wpList_append_lies _ rfl (.tmp 17) (.tmp 19) 22 rfl (w.heap.size+2) 3 i3 (.int .i64 0) 1 8 Tryz.underlying22 HI.out.1 HI.out.2.1 HI.out.2.2.1 HI.out.2.2.2 rfl (by decide) v0 nG xG rfl HOW.out ⟨wr.heap.size+1,0,none⟩ 1 1 [.int .i64 (i:Int)] rfl rfl (cell_one _ hnw) (one_cell _) (by decide) (by have:=HGL.out;unfold maxLen;omega) (by have:=HGL.out;omega) (by omega) W2.heap.size rfl ?grow)
   case grow =>
    intro g cap W3 hown3 hgrow hat hlt
    obtain ⟨W4,hst,hP4⟩:=HBK.out g cap W3 hgrow hown3 hat
    have HP4:Hid (PLW w W4 (w.heap.size+1) n pc (some ⟨gp,0,none⟩) pl (i+1)):=hP4
    clear hP4 hown3 hat hgrow
    go_wp2
    go_roundg (n - (i+1))
    case measure=>omega
    case rel=>exact ⟨i+1,by omega,rfl,by go_num,HP4.out⟩
  ·have i1:¬ (i:Int)<(n:Int):=by omega
   obtain rfl:i=n:=by omega
   obtain ⟨W2,hW2⟩:∃ W2,W2=wr.alloc (.cells #[.map (some (w.heap.size+1))] 200):=⟨_,rfl⟩
   have hbW:Below wr.heap.size wr W2:=by rw [hW2];exact bl_alloc (bl_refl _)
   obtain ⟨ls,c,t1,t2,t3,t4,t5⟩:=HP.out.m.kept hbW
   have hbx:W2.cell? ⟨wr.heap.size,0,none⟩=some (.map (some (w.heap.size+1))):=by rw [hW2];simp [go_sem]
   have hgpw:gp<w.heap.size:=by
    obtain ⟨g',eg,q0,_⟩:=HT.out 0 (by rw [← HNL.out];omega)
    cases eg
    exact World.block_lt_of_cell? _ _ q0
   have hb2:Below w.heap.size w W2:=bl_via HP.out.b hbW
   have hrow:∀ x∈ls,∃ g q,x.2.1=.slice (some ⟨g,0,none⟩) (Gn pl i x.1).length q∧W2.ownsRow (w.heap.size+2) 3 1 x.2.1 (Gn pl i x.1).length ((Gn pl i x.1).map (Value.int .i64))∧Gn pl i x.1≠[]:=fun x hx=>by
    obtain ⟨a1,a2,_⟩:=t4 x.1 x.2.1 (Tlk_of t2 hx)
    obtain ⟨g,q,e⟩:=own_slice a1 (List.length_pos_iff.2 a2)
    exact ⟨g,q,e,a1,a2⟩
   have hRA:∀ x∈ls,RowAt W2 gp i x:=fun x hx=>by
    obtain ⟨g,q,e,a1,a2⟩:=hrow x hx
    have hl:=List.length_pos_iff.2 a2
    obtain ⟨k,hk⟩:=Gn_nat pl i x.1 ((Gn pl i x.1)[0]) (List.getElem_mem hl)
    have hkm:=(Gn_mem pl x.1 i k).1 (by rw [← hk];exact List.getElem_mem hl)
    rw [e] at a1
    have hc:=a1.cellAt 0 (by omega)
    have hkl:k<pl.length:=by rw [← HNL.out];exact hkm.1
    obtain ⟨g',eg,q0,q1,q2⟩:=(HT.out.kept hb2) k hkl
    cases eg
    have e3:pl[k]=x.1:=by rw [← hkm.2,List.getD_eq_getElem?_getD,List.getElem?_eq_getElem hkl];rfl
    rw [e3] at q0 q1 q2
    refine ⟨g,_,q,k,e,hl, ?_,hkm.1,q0,q1,q2⟩
    rw [hc,List.getElem?_map,List.getElem?_eq_getElem hl,hk]
    rfl
   have hlen:ls.length≤300:=by
    have h1:=sub_lenT (ls.map (fun x=>x.1)) pl t2.1 (fun e he=>by
     obtain ⟨x,hx,rfl⟩:=List.mem_map.1 he
     obtain ⟨g,q,e,a1,a2⟩:=hrow x hx
     have hl:=List.length_pos_iff.2 a2
     obtain ⟨k,hk⟩:=Gn_nat pl i x.1 ((Gn pl i x.1)[0]) (List.getElem_mem hl)
     have hkm:=(Gn_mem pl x.1 i k).1 (by rw [← hk];exact List.getElem_mem hl)
     have hkl:k<pl.length:=by rw [← HNL.out];exact hkm.1
     rw [← hkm.2,List.getD_eq_getElem?_getD,List.getElem?_eq_getElem hkl]
     exact List.getElem_mem hkl)
    rw [List.length_map,← HNL.out] at h1
    omega
   have hall:∀ k,k<pl.length→∃ x∈ls,x.1=pl.getD k (0,0,0):=fun k hk=>by
    have hm:=(Gn_mem pl (pl.getD k (0,0,0)) i k).2 ⟨by rw [HNL.out];exact hk,rfl⟩
    cases hl:Tlk ls (pl.getD k (0,0,0)) with
    | none =>
     rw [t3 _ hl] at hm
     cases hm
    | some v =>
     obtain ⟨x,hx,e,_⟩:=Tlk_some hl
     exact ⟨x,hx,e⟩
   have h0:ls≠[]:=fun e=>by
    obtain ⟨x,hx,_⟩:=hall 0 (by rw [← HNL.out];exact h0n)
    rw [e] at hx
    cases hx
   have CS:Hid (Calls Tryz.prog 141 #[.func (.func 175) #[] #[.pointer (some ⟨wr.heap.size,0,none⟩)],.func (.func 143) #[] #[.pointer (some ⟨w.heap.size,0,none⟩)]] W2 fun e w'=>SRows W2 w' ls e):=sortedRows_any W2 wr.heap.size (w.heap.size+1) c w.heap.size gp i pc ls t2 h0 hlen hbx t1 (cl_kept hbW HP.out.p) (Nat.lt_of_lt_of_le hgpw hb2.size) hRA
   have HLS:Hid ((∀ x∈ls,∃ g q,x.2.1=.slice (some ⟨g,0,none⟩) (Gn pl i x.1).length q∧W2.ownsRow (w.heap.size+2) 3 1 x.2.1 (Gn pl i x.1).length ((Gn pl i x.1).map (Value.int .i64))∧Gn pl i x.1≠[])∧(∀ k,k<pl.length→∃ x∈ls,x.1=pl.getD k (0,0,0))∧TGood ls c∧(∀ e e' v v',e≠e'→Tlk ls e=some v→Tlk ls e'=some v'→v.ownBlock≠v'.ownBlock)∧Below w.heap.size w W2):=⟨hrow,hall,t2,t5,hb2⟩
   have HW2:Hid (W2=wr.alloc (.cells #[.map (some (w.heap.size+1))] 200)):=hW2
   clear t1 t2 t3 t4 t5 hbx hrow hRA hlen hall h0 hbW hb2 hW2
   go_wp2_with (first | (go_at_call 142;refine (values_any _ _).mono ?_;rintro e w2 ⟨rfl,rfl⟩;rw [← HW2.out]) | (go_at_call 141;refine CS.out.mono ?_;rintro e w3 ⟨g,q,vis,rfl,h1,h2,h3,h4,h5⟩;have HF:Hid (vis.Perm ls∧vis.Pairwise (fun x y=>¬ ltT y.1 x.1)∧(∀ i (hi:i<vis.length),w3.cell? ⟨g,i,none⟩=some vis[i].2.1)∧W2.heap.size≤g∧Below W2.heap.size W2 w3):=⟨h1,h2,h3,h4,h5⟩;clear h1 h2 h3 h4 h5))
   go_ret
   obtain ⟨f1,f2,f3,f4,f5⟩:=HF.out
   obtain ⟨l1,l2,l3,l4,l5⟩:=HLS.out
   have zm:=HP.out.b.size
   have hin:∀ x∈vis,x∈ls:=fun x hx=>f1.mem_iff.1 hx
   have hnl:=HNL.out
   subst hnl
   have hnd:(vis.map (fun x=>x.1)).Nodup:=(f1.map (fun x=>x.1)).nodup_iff.2 l3.1
   refine ⟨g,vis.length,q,vis.map (fun x=>(x.1,blkOf x.2.1,capOf x.2.1)),by simp,⟨by simp, ?_, ?_, ?_, ?_, ?_, ?_, ?_,bl_via l5 f5⟩⟩
   ·rw [List.pairwise_map]
    have hn2:=List.pairwise_map.1 hnd
    exact (f2.and hn2).imp (fun {a b} h=>ltT_three h.1 (fun e=>h.2 e.symm))
   ·intro j hj
    have hj2:j<vis.length:=by simpa using hj
    obtain ⟨g1,q1,e1,_⟩:=l1 vis[j] (hin _ (List.getElem_mem hj2))
    rw [f3 j hj2,List.getElem_map]
    rw [e1]
    simp [blkOf,capOf]
   ·intro s hs
    obtain ⟨x,hx,rfl⟩:=List.mem_map.1 hs
    obtain ⟨g1,q1,e1,o1,_⟩:=l1 x (hin x hx)
    have o2:=own_below o1 f5
    rw [e1] at o2 ⊢
    exact ⟨o2.1,o2.2.imp id (fun ⟨g,cap,cur,h1,h2,h3⟩=>⟨g,cap,cur,h1,Nat.le_trans (by omega) h2,h3⟩)⟩
   ·intro s hs
    obtain ⟨x,hx,rfl⟩:=List.mem_map.1 hs
    obtain ⟨g1,q1,e1,_,o2⟩:=l1 x (hin x hx)
    exact o2
   ·intro k hk
    obtain ⟨x,hx,e1⟩:=l2 k hk
    exact ⟨_,List.mem_map.2 ⟨x,f1.mem_iff.2 hx,rfl⟩,e1⟩
   ·rw [List.pairwise_map]
    have hn2:=List.pairwise_map.1 hnd
    refine hn2.imp_of_mem (fun {a b} ha hb h=>?_)
    have k1:=l4 a.1 b.1 a.2.1 b.2.1 h (Tlk_of l3 (hin a ha)) (Tlk_of l3 (hin b hb))
    obtain ⟨g1,q1,e1,_⟩:=l1 a (hin a ha)
    obtain ⟨g2,q2,e2,_⟩:=l1 b (hin b hb)
    rw [e1,e2] at k1 ⊢
    simpa [Value.ownBlock,blkOf] using k1
   ·intro s hs
    obtain ⟨x,hx,rfl⟩:=List.mem_map.1 hs
    obtain ⟨g1,q1,e1,o1,o2⟩:=l1 x (hin x hx)
    rw [e1] at o1 ⊢
    have z1:=(o1.lt g1 rfl).2
    simp only [blkOf]
    omega
open Go.RowKit Go.ChangeMaps
set_option maxRecDepth 100000 in
set_option maxHeartbeats 6400000 in
theorem lay_yes (W H b off cap n ccap:Nat) (cb:Option Addr) (zs ks:List Int) (w:World) (hr:Row w (some ⟨b,off,none⟩) zs) (hW:1≤W∧W≤8) (hH:1≤H∧H≤8) (hl:zs.length=W*H) (hm:maskB zs=true) (hk:Row w cb ks) (hn:ks.length=n*5) (hn2:n≤3518437208883) (hs:Steps w) (hJ:Joined (ty zs W H)) (hC:∀ i,i<n→CrOk (ty zs W H) ks i) :
  Calls Tryz.prog 65 #[.agg #[.int .i64 (W:Int),.int .i64 (H:Int),.slice (some ⟨b,off,none⟩) zs.length cap,.slice cb n ccap]] w fun e w'=>∃ ad cc base ra rk,e=.returned (.tuple #[.agg #[.slice ad (ty zs W H).length cc,.map (some ra),.map (some rk)],.bool true])∧PK w w' base ra rk (.slice ad (ty zs W H).length cc) (ty zs W H) (gix (ty zs W H)) (kf ks n):=by
 have hcb:cellsB (W:Int) (H:Int) zs=true:=by
  have e1:sideB (W:Int)=true:=by simp [sideB];omega
  have e2:sideB (H:Int)=true:=by simp [sideB];omega
  have e3:(zs.length:Int)=(W:Int)*(H:Int):=by rw [hl];simp
  simp only [cellsB,e1,e2,decide_eq_true e3,hm]
  rfl
 have hsW:sideB (W:Int)=true:=by simp [sideB];omega
 have hsH:sideB (H:Int)=true:=by simp [sideB];omega
 have hlW:(zs.length:Int)=(W:Int)*(H:Int):=by rw [hl];simp
 have C93:Hid (∀ W':World,Below w.heap.size w W'→Calls Tryz.prog 98 #[.agg #[.int .i64 (W:Int),.int .i64 (H:Int),.slice (some ⟨b,off,none⟩) zs.length cap,.slice cb n ccap]] W' fun e w'=>e=.returned (.bool true)∧∃ o,w'=W'.alloc o):=fun W' hW'=>hm ▸ mayMask_any W H _ cap zs _ W' hsW hsH (hr.kept hW') hlW
 have C92:Hid (∀ W':World,Calls Tryz.prog 97 #[.int .i64 (W:Int)] W' fun e w'=>e=.returned (.bool true)∧w'=W'):=fun W'=>hsW ▸ maySide_any (W:Int) W'
 have C92':Hid (∀ W':World,Calls Tryz.prog 97 #[.int .i64 (H:Int)] W' fun e w'=>e=.returned (.bool true)∧w'=W'):=fun W'=>hsH ▸ maySide_any (H:Int) W'
 have C94:Hid (∀ W':World,Below w.heap.size w W'→Calls Tryz.prog 99 #[.int .i64 (W:Int),.int .i64 (H:Int),.slice (some ⟨b,off,none⟩) zs.length cap] W' fun e w'=>∃ ad cc base pb ra rk,e=.returned (.agg #[.slice ad (ty zs W H).length cc,.map (some ra),.map (some rk)])∧PP W' w' base pb ra rk (.slice ad (ty zs W H).length cc) (ty zs W H) (gix (ty zs W H))):=fun W' hW'=>of_any W H b off cap zs W' (hs.kept hW') (hr.kept hW') hW hH hl hm
 have hlen:(ty zs W H).length≤300:=by have:=ty_len zs W H hW.2;omega
 have C95:Hid (∀ (W':World) (ad:Option Addr) (cc ra rk:Nat),Below w.heap.size w W'→PA W' ad ra (ty zs W H)→Calls Tryz.prog 100 #[.agg #[.slice ad (ty zs W H).length cc,.map (some ra),.map (some rk)]] W' fun e w'=>∃ bb:Bool,e=.returned (.bool bb)∧(bb=true↔Joined (ty zs W H))∧Below W'.heap.size W' w'):=fun W' ad cc ra rk hW' hp=>joined_any W' cc ra rk ad _ (hs.kept hW') hp hlen (ty_nodup zs W H) (ty_bd hW.2 hH.2)
 have C96:Hid (∀ (W':World) (ad:Option Addr) (cc ra rk:Nat),Below w.heap.size w W'→PA W' ad ra (ty zs W H)→Calls Tryz.prog 101 #[.agg #[.slice ad (ty zs W H).length cc,.map (some ra),.map (some rk)],.slice cb n ccap] W' fun e w'=>∃ bb:Bool,e=.returned (.bool bb)∧(bb=true↔∀ i,i<n→CrOk (ty zs W H) ks i)∧Below W'.heap.size W' w'):=fun W' ad cc ra rk hW' hp=>mayCreases_any W' cc ra rk n ccap ad cb _ ks hp (hk.kept hW') hn hn2
 have HCR:Hid (CRow w cb ks n):=row_crow hk hn
 clear hr hl hm hW hH hk hn hs hcb hsW hsH hlW
 obtain ⟨L,hL⟩:∃ L,L=ty zs W H:=⟨_,rfl⟩
 rw [← hL] at C94 C95 C96 hlen
 rw [← hL] at hJ hC ⊢
 have HJ:Hid (Joined L):=hJ
 have HC:Hid (∀ i,i<n→CrOk L ks i):=hC
 clear hL hJ hC
 go_enter Tryz.func65,Tryz.ntmps65
 go_wp2_with (first
  | (go_at_call 97;first | (refine (C92.out _).mono ?_;rintro e w9 ⟨rfl,hw9⟩;have hw9b:=hw9.symm;clear hw9;subst hw9b) | (refine (C92'.out _).mono ?_;rintro e w9 ⟨rfl,hw9⟩;have hw9b:=hw9.symm;clear hw9;subst hw9b))
  | (go_at_call 98;refine (C93.out _ (by with_reducible exact bl_alloc (bl_alloc (bl_refl _)))).mono ?_;rintro e w9 ⟨rfl,o9,rfl⟩)
  | (go_at_call 99;refine (C94.out _ (by with_reducible exact bl_alloc (bl_alloc (bl_alloc (bl_refl _))))).mono ?_;rintro e w3 ⟨ad,cc,base,pb,ra,rk,rfl,hPP⟩;have HK3:Hid (PK ((w.alloc (.cells #[.int .i64 (W:Int),.int .i64 (H:Int),.slice (some ⟨b,off,none⟩) zs.length cap,.slice cb n ccap] 25)).alloc (.cells #[.slice none 0 0,.map none,.map none] 68)) w3 base ra rk (.slice ad L.length cc) L (gix L) (fun _=>none)):=hPP.pk.base (bl_alloc (bl_refl _));have s0:w3.cell? ⟨w.heap.size,0,none⟩=some (.int .i64 (W:Int)):=cl_kept HK3.out.2.2.2.2 (by simp [go_sem]);have s1:w3.cell? ⟨w.heap.size,1,none⟩=some (.int .i64 (H:Int)):=cl_kept HK3.out.2.2.2.2 (by simp [go_sem]);have s2:w3.cell? ⟨w.heap.size,2,none⟩=some (.slice (some ⟨b,off,none⟩) zs.length cap):=cl_kept HK3.out.2.2.2.2 (by simp [go_sem]);have s3:w3.cell? ⟨w.heap.size,3,none⟩=some (.slice cb n ccap):=cl_kept HK3.out.2.2.2.2 (by simp [go_sem]);have z3:w.heap.size<w3.heap.size:=World.block_lt_of_cell? _ _ s0;have z3b:w.heap.size+1<w3.heap.size:=Nat.lt_of_lt_of_le (by simp) HK3.out.2.2.2.2.size;clear hPP)
  | (go_at_call 100;refine (C95.out _ _ cc ra rk (bl_alloc (bl_via (bl_alloc (bl_alloc (bl_refl _))) HK3.out.2.2.2.2)) (HK3.out.pa.kept (bl_alloc (bl_refl _)))).mono ?_;rintro e w4 ⟨bb4,rfl,hb4,hbl4⟩;obtain rfl:bb4=true:=hb4.2 HJ.out;have HK4:Hid (PK ((w.alloc (.cells #[.int .i64 (W:Int),.int .i64 (H:Int),.slice (some ⟨b,off,none⟩) zs.length cap,.slice cb n ccap] 25)).alloc (.cells #[.slice none 0 0,.map none,.map none] 68)) w4 base ra rk (.slice ad L.length cc) L (gix L) (fun _=>none)∧Below w3.heap.size w3 w4):=⟨HK3.out.kept (bl_via (bl_alloc (bl_refl _)) hbl4),bl_via (bl_alloc (bl_refl _)) hbl4⟩;have r0:w4.cell? ⟨w.heap.size,0,none⟩=some (.int .i64 (W:Int)):=cl_kept HK4.out.2 s0;have r1:w4.cell? ⟨w.heap.size,1,none⟩=some (.int .i64 (H:Int)):=cl_kept HK4.out.2 s1;have r2:w4.cell? ⟨w.heap.size,2,none⟩=some (.slice (some ⟨b,off,none⟩) zs.length cap):=cl_kept HK4.out.2 s2;have r3:w4.cell? ⟨w.heap.size,3,none⟩=some (.slice cb n ccap):=cl_kept HK4.out.2 s3;have u0p:w4.cell? ⟨w3.heap.size,0,none⟩=some (.slice ad L.length cc):=cl_kept hbl4 (by simp [go_sem]);have u1p:w4.cell? ⟨w3.heap.size,1,none⟩=some (.map (some ra)):=cl_kept hbl4 (by simp [go_sem]);have u2p:w4.cell? ⟨w3.heap.size,2,none⟩=some (.map (some rk)):=cl_kept hbl4 (by simp [go_sem]);have z4:w.heap.size<w4.heap.size:=World.block_lt_of_cell? _ _ r0;have z4b:w3.heap.size<w4.heap.size:=World.block_lt_of_cell? _ _ u0p;clear hb4 hbl4)
  | (go_at_call 101;refine (C96.out _ _ cc ra rk (bl_via (bl_alloc (bl_alloc (bl_refl _))) HK4.out.1.2.2.2.2) HK4.out.1.pa).mono ?_;rintro e w5 ⟨bb5,rfl,hb5,hbl5⟩;obtain rfl:bb5=true:=hb5.2 HC.out;have HK5:Hid (PK ((w.alloc (.cells #[.int .i64 (W:Int),.int .i64 (H:Int),.slice (some ⟨b,off,none⟩) zs.length cap,.slice cb n ccap] 25)).alloc (.cells #[.slice none 0 0,.map none,.map none] 68)) w5 base ra rk (.slice ad L.length cc) L (gix L) (fun _=>none)):=HK4.out.1.kept hbl5;have v0:w5.cell? ⟨w.heap.size,0,none⟩=some (.int .i64 (W:Int)):=cl_kept hbl5 r0;have v1:w5.cell? ⟨w.heap.size,1,none⟩=some (.int .i64 (H:Int)):=cl_kept hbl5 r1;have v2:w5.cell? ⟨w.heap.size,2,none⟩=some (.slice (some ⟨b,off,none⟩) zs.length cap):=cl_kept hbl5 r2;have v3:w5.cell? ⟨w.heap.size,3,none⟩=some (.slice cb n ccap):=cl_kept hbl5 r3;have x0p:w5.cell? ⟨w3.heap.size,0,none⟩=some (.slice ad L.length cc):=cl_kept hbl5 u0p;have x1p:w5.cell? ⟨w3.heap.size,1,none⟩=some (.map (some ra)):=cl_kept hbl5 u1p;have x2p:w5.cell? ⟨w3.heap.size,2,none⟩=some (.map (some rk)):=cl_kept hbl5 u2p;have z5:w.heap.size<w5.heap.size:=World.block_lt_of_cell? _ _ v0;clear hb5 hbl5))
 have zbase:base≤w3.heap.size:=HK3.out.2.2.2.1.2.2.2.2.2.1
 go_loopg [44] n (fun gk s44 wx=>∃ i:Nat,i≤n∧gk=n - i∧s44=.int .i64 (i:Int)∧PK ((w.alloc (.cells #[.int .i64 (W:Int),.int .i64 (H:Int),.slice (some ⟨b,off,none⟩) zs.length cap,.slice cb n ccap] 25)).alloc (.cells #[.slice none 0 0,.map none,.map none] 68)) wx base ra rk (.slice ad L.length cc) L (gix L) (kf ks i)∧(wx.cell? ⟨w3.heap.size,0,none⟩=some (.slice ad L.length cc)∧wx.cell? ⟨w3.heap.size,1,none⟩=some (.map (some ra))∧wx.cell? ⟨w3.heap.size,2,none⟩=some (.map (some rk))))
 case atStart=>exact ⟨0,by omega,rfl,rfl,HK5.out,x0p,x1p,x2p⟩
 case round =>
  clear HK5 HK4 x0p x1p x2p u0p u1p u2p s0 s1 s2 s3 r0 r1 r2 r3 v0 v1 v2 v3 z4 z4b z5
  obtain ⟨i,hi,rfl,rfl,hK,y0,y1,y2⟩:=hrel
  have HK:Hid (PK ((w.alloc (.cells #[.int .i64 (W:Int),.int .i64 (H:Int),.slice (some ⟨b,off,none⟩) zs.length cap,.slice cb n ccap] 25)).alloc (.cells #[.slice none 0 0,.map none,.map none] 68)) wr base ra rk (.slice ad L.length cc) L (gix L) (kf ks i)):=hK
  have HB:Hid (Below w.heap.size w wr):=bl_via (bl_alloc (bl_alloc (bl_refl _))) hK.2.2.2.2
  clear hK
  have zy:w3.heap.size<wr.heap.size:=World.block_lt_of_cell? _ _ y0
  by_cases h1:i<n
  ·have i1:(i:Int)<(n:Int):=by omega
   have i0:(0:Int)≤(i:Int):=by omega
   obtain ⟨bb,bo,rfl,c0,c1,c2,c3,c4⟩:=(HCR.out.kept HB.out) i h1
   have zb:bb<wr.heap.size:=World.block_lt_of_cell? _ _ c0
   obtain ⟨W',hu,hg,hK'⟩:=(HK.out.kept (w':=wr.alloc (.cells #[.int .i64 (ck ks i 0),.int .i64 (ck ks i 1),.int .i64 (ck ks i 2),.int .i64 (ck ks i 3),.int .i64 (ck ks i 4)] 83)) (bl_alloc (bl_refl _))).update ((ck ks i 0),(ck ks i 1),(ck ks i 2),(ck ks i 3)) (.int .i64 (ck ks i 4))
   have hu':(Instr.mapUpdate 66 (.map (some rk)) (.agg #[.int .i64 (ck ks i 0),.int .i64 (ck ks i 1),.int .i64 (ck ks i 2),.int .i64 (ck ks i 3)]) (.int .i64 (ck ks i 4))).run Tryz.prog (wr.alloc (.cells #[.int .i64 (ck ks i 0),.int .i64 (ck ks i 1),.int .i64 (ck ks i 2),.int .i64 (ck ks i 3),.int .i64 (ck ks i 4)] 83))=.ok () W':=hu
   have hne:some w3.heap.size≠some rk:=fun e=>by
    have:=HK.out.2.2.2.1.2.2.2.1
    simp at e
    omega
   have HN:Hid (PK ((w.alloc (.cells #[.int .i64 (W:Int),.int .i64 (H:Int),.slice (some ⟨b,off,none⟩) zs.length cap,.slice (some ⟨bb,bo,none⟩) n ccap] 25)).alloc (.cells #[.slice none 0 0,.map none,.map none] 68)) W' base ra rk (.slice ad L.length cc) L (gix L) (kf ks (i+1))∧(W'.cell? ⟨w3.heap.size,0,none⟩=some (.slice ad L.length cc)∧W'.cell? ⟨w3.heap.size,1,none⟩=some (.map (some ra))∧W'.cell? ⟨w3.heap.size,2,none⟩=some (.map (some rk)))):=⟨hK',hg.cell (al_old y0) hne,hg.cell (al_old y1) hne,hg.cell (al_old y2) hne⟩
   clear hu hg hK' hne
   go_wp2
   go_roundg (n - (i+1))
   case measure=>omega
   case rel=>exact ⟨i+1,by omega,rfl,by go_num,HN.out.1,HN.out.2⟩
  ·have i1:¬ (i:Int)<(n:Int):=by omega
   obtain rfl:i=n:=by omega
   have c0r:wr.cell? ⟨w.heap.size+1,0,none⟩=some (.slice none 0 0):=cl_kept HK.out.2.2.2.2 (by simp [go_sem])
   have c1r:wr.cell? ⟨w.heap.size+1,1,none⟩=some (.map none):=cl_kept HK.out.2.2.2.2 (by simp [go_sem])
   have c2r:wr.cell? ⟨w.heap.size+1,2,none⟩=some (.map none):=cl_kept HK.out.2.2.2.2 (by simp [go_sem])
   have f0r:wr.frozen? ⟨w.heap.size+1,0,none⟩=false:=(HK.out.2.2.2.2.frozen (p:=⟨w.heap.size+1,0,none⟩) (by simp)).trans (by simp [go_sem])
   have f1r:wr.frozen? ⟨w.heap.size+1,1,none⟩=false:=(HK.out.2.2.2.2.frozen (p:=⟨w.heap.size+1,1,none⟩) (by simp)).trans (by simp [go_sem])
   have f2r:wr.frozen? ⟨w.heap.size+1,2,none⟩=false:=(HK.out.2.2.2.2.frozen (p:=⟨w.heap.size+1,2,none⟩) (by simp)).trans (by simp [go_sem])
   go_wp2
   have hz2:=HK.out.2.2.2.1
   refine bodyPost_ret (v:=.tuple #[.agg #[.slice ad L.length cc,.map (some ra),.map (some rk)],.bool true]) ?_ rfl ⟨ad,cc,base,ra,rk,rfl,(HK.out.base (bl_alloc (bl_alloc (bl_refl w)))).grown (gb_then (gb_then (grown_cell _ _ 0 _) (grown_cell _ _ 1 _)) (grown_cell _ _ 2 _)) (by omega) ?_ ?_ ?_⟩
   ·simp [results,Tryz.results65,go_sem,c0r,c1r,c2r]
   ·have:=hz2.1
    simp at this
    omega
   ·have:=hz2.2.2.1
    simp at this
    omega
   ·have:=hz2.2.2.2.2.2.2
    simp at this
    omega
end Go.Proofs.YtgpjaecgkkgehaaGreatDoor
