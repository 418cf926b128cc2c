/- A part of it. -/
import Derived.Test.YtnpboeodhpenmaaGreatDoorQlah
import Derived.Deep.AppendLies
set_option maxRecDepth 100000
set_option maxHeartbeats 40000000
namespace Go.Proofs.YtnpboeodhpenmaaGreatDoor
open Go.RowKit Go.ChangeMaps
variable {w w':World} {t u:T3} {L l:List T3} {B base c d f g i j m n:Nat} {v:Value} {e:E4} {a:E4→Bool} {row:Option Nat} {k p q r s x y:Int}
def AdjC (cr:E4→Bool) (t u:T3):Prop:=u≠t∧∃ e,hasT t e=true∧hasT u e=true∧cr e=true
theorem AdjC.symm {b:E4→Bool} (h:AdjC b t u):AdjC b u t:=⟨fun e=>h.1 e.symm,h.2.imp fun _ a=>⟨a.2.1,a.1,a.2.2⟩⟩
def ReachC (cr:E4→Bool) (l:List T3) (t u:T3):Prop:=t∈l∧∀ p:T3→Prop,p t→(∀ a b,p a→b∈l→AdjC cr a b→p b)→p u
theorem ReachC.here (h:t∈l):ReachC a l t t:=⟨h,fun _ k _=>k⟩
theorem ReachC.step {v:T3} (h:ReachC a l t u) (hv:v∈l) (b:AdjC a u v):ReachC a l t v:=⟨h.1,fun p k s=>s _ _ (h.2 p k s) hv b⟩
theorem ReachC.ind {motive:∀ u,ReachC a l t u→Prop} (here:∀ h:t∈l,motive t (ReachC.here h))
  (step:∀ {u v} (h:ReachC a l t u) (hv:v∈l) (c:AdjC a u v),motive u h→motive v (ReachC.step h hv c)) (h:ReachC a l t u):motive u h:=by
 obtain ⟨_,m⟩:=h.2 (fun x=>∃ k:ReachC a l t x,motive x k) ⟨ReachC.here h.1,here h.1⟩ (fun _ _ ⟨_,m⟩ d b=>⟨_,step _ d b m⟩);exact m
theorem ReachC.mem (h:ReachC a l t u):t∈l∧u∈l:=by
 induction h using ReachC.ind with
 | here h=>exact ⟨h,h⟩
 | step _ hv _ ih=>exact ⟨ih.1,hv⟩
theorem ReachC.trans {v:T3} (h:ReachC a l t u) (k:ReachC a l u v):ReachC a l t v:=by
 induction k using ReachC.ind with
 | here _=>exact h
 | step _ hv ha ih=>exact ih.step hv ha
theorem ReachC.symm (h:ReachC a l t u):ReachC a l u t:=by
 induction h using ReachC.ind with
 | here h=>exact .here h
 | step h hv ha ih=>exact ((ReachC.here hv).step h.mem.2 ha.symm).trans ih
theorem reach_all:ReachC (fun _=>true) l t u↔Reach l t u:=by
 constructor
 ·intro h;induction h using ReachC.ind with
  | here h=>exact .here h
  | step _ hv ha ih=>exact ih.step hv ⟨ha.1,ha.2.imp fun _ a=>⟨a.1,a.2.1⟩⟩
 ·intro h;induction h using Reach.ind with
  | here h=>exact .here h
  | step _ hv ha ih=>exact ih.step hv ⟨ha.1,ha.2.imp fun _ a=>⟨a.1,a.2,rfl⟩⟩
def lab (part:Nat→Int) (num:Int) (R:List Nat):Nat→Int:=fun i=>if i∈R then num else part i
def Sp (cr:E4→Bool) (L:List T3) (part:Nat→Int) (f:Nat) (R:List Nat):Prop :=
 f∈R∧R.Nodup∧∀ i∈R,∃ h:i<L.length,part i<0∧∃ hf:f<L.length,ReachC cr L L[f] L[i]
def DoneE (L:List T3) (part:Nat→Int) (R:List Nat) (e:E4):Prop := ∀ j (hj:j<L.length),hasT L[j] e=true→j∈R∨0≤part j
def DoneT (cr:E4→Bool) (L:List T3) (part:Nat→Int) (R:List Nat) (t:T3) (k:Nat):Prop := ∀ k',k'<k→cr (edg t k')=true→DoneE L part R (edg t k')
theorem DoneE.mono {a:Nat→Int} {R b:List Nat} (h:DoneE L a R e) (hs:∀ i∈R,i∈b):DoneE L a b e:=fun j c d=>(h j c d).imp (hs j) id
theorem DoneT.mono {c:E4→Bool} {a:Nat→Int} {R b:List Nat} {k:Nat} (h:DoneT c L a R t k) (hs:∀ i∈R,i∈b):DoneT c L a b t k:=fun f e d=>(h f e d).mono hs
theorem erase_len {R:List Nat} (n:Nat) (_hn:R.Nodup):R.length≤(R.erase n).length+1:=by
 by_cases h:n∈R
 ·rw [List.length_erase_of_mem h];omega
 ·rw [List.erase_of_not_mem h];omega
theorem Gz:∀ (n:Nat) (R:List Nat),R.Nodup→(∀ i∈R,i<n)→R.length≤n
 | 0,R,_,h=>by
  cases R with
  | nil=>simp
  | cons a r=>exact absurd (h a ξ) γ
 | n+1,R,hn,h=>by
  have h1:=Gz n (R.erase n) (hn.erase n) (fun i hi=>by
   have h2:=h i (List.mem_of_mem_erase hi)
   have h3:i≠n:=fun e=>by
    subst e;exact (List.Nodup.not_mem_erase hn) hi
   omega)
  have:=erase_len n hn;omega
theorem Sp.len {b:E4→Bool} {a:Nat→Int} {R:List Nat} (h:Sp b L a f R):R.length≤L.length:=Gz _ _ h.2.1 (fun i hi=>(h.2.2 i hi).1)
theorem Sp.found {l:E4→Bool} {c:Nat→Int} {R:List Nat} (h:Sp l L c f R) (n:L.Nodup) (hi:i∈R) (m:j<L.length) (p:j ∉ R) (hp:c j<0) (r:l e=true) (h1:∀ hi':i<L.length,hasT L[i] e=true) (h2:hasT L[j] e=true):Sp l L c f (R ++ [j]):=by
 obtain ⟨g,t,s,hr⟩:=h.2.2 i hi;refine ⟨List.mem_append_left _ h.1, ?_,fun k d=>?_⟩
 ·rw [List.nodup_append];refine ⟨h.2.1,ξ,fun a q b o=>?_⟩;simp at o;subst o;exact fun e=>p (e ▸ q)
 ·rcases List.mem_append.1 d with d | d
  ·exact h.2.2 k d
  ·simp at d;subst d;refine ⟨m,hp,s,hr.step (Lm m) ⟨fun e1=>?_,e,h1 g,h2,r⟩⟩;have:=Jj n m g e1;exact p (this ▸ hi)
theorem lab_found (a:Nat→Int) (b:Int) (R:List Nat) (j:Nat):lab a b (R ++ [j])=fun i=>if i=j then b else lab a b R i:=by
 funext i
 unfold lab;by_cases e:i=j
 ·simp [e]
 ·simp [e]
def ZRow (w:World) (g n:Nat) (f:Nat→Int):Prop := ∀ i,i<n→At w g i (I (f i))∧Fn w g i
theorem ZRow.grown {f:Nat→Int} (h:ZRow w g n f) (hg:w.grownBy w' row) (b:some g≠row):ZRow w' g n f:=fun i hi =>
 ⟨hg.cell (h i hi).1 b,(Fo (a:=⟨g,i,none⟩) (hg.block g (bk (h i hi).1) b)).trans (h i hi).2⟩
theorem ZRow.kept {f:Nat→Int} (h:ZRow w g n f) (a:Bl w w'):ZRow w' g n f:=h.grown (Qy a) ξ
theorem ZRow.set {f:Nat→Int} (h:ZRow w g n f) (v:Int) (hi:i<n):ZRow (w.setCell ⟨g,i,none⟩ (I v)) g n (fun j=>if j=i then v else f j):=fun j a=>by
 refine ⟨?_,by (try simp only [I,Fn]);rw [Fz];exact (h j a).2⟩;show World.cell? _ _=_
 by_cases e:j=i
 ·subst e;(try simp only [I]);rw [Cs _ _ _ (h j a).1]
  simp
 ·(try simp only [I]);rw [Co _ _ _ _ π]
  (try simp only [At,I,Fn,Az,Ad]);rw [(h j a).1]
  simp [e]
def PA (wE:World) (ad:Option Addr) (ra:Nat) (L:List T3):Prop :=
 TRow wE ad L∧∀ e,∃ a cap,Row wE a (gix L e)∧∀ wx:World,Bl wE wx→(Instr.lookup 95 (.map (some ra)) (ek e) false).run Tryz.prog wx=.ok (.slice a (gix L e).length cap) wx
theorem PA.kept {d:Option Addr} (h:PA w d f L) (c:Bl w w'):PA w' d f L :=
 ⟨h.1.kept c,fun e=>by
  obtain ⟨a,b,h1,h2⟩:=h.2 e;exact ⟨a,b,h1.kept c,fun i g=>h2 i (Qc c g)⟩⟩
def noM:M6:=(0,0,0,0,0,0)
def aft (m n:M6):M6 :=
 (dot n.1 n.2.1 m.1 m.2.2.1,dot n.1 n.2.1 m.2.1 m.2.2.2.1,dot n.2.2.1 n.2.2.2.1 m.1 m.2.2.1,dot n.2.2.1 n.2.2.2.1 m.2.1 m.2.2.2.1,dot n.1 n.2.1 m.2.2.2.2.1 m.2.2.2.2.2+n.2.2.2.2.1,dot n.2.2.1 n.2.2.2.1 m.2.2.2.2.1 m.2.2.2.2.2+n.2.2.2.2.2)
def lnW (e:E4):Int:=if e.1=e.2.2.1 then 0 else if e.2.1=e.2.2.2 then 1 else if e.2.2.2<e.2.1 then 2 else 3
def lnC (e:E4):Int:=if e.1=e.2.2.1 then e.1 else if e.2.1=e.2.2.2 then e.2.1 else if e.2.2.2<e.2.1 then e.1+e.2.1 else e.1 - e.2.1
def mir (v c:Int):M6:=(mA v,mB v,mB v,mD v,mE v c,mF v c)
def farM (kd:E4→Int) (e:E4) (m:M6):M6:=if kd e=0 then m else aft (mir (lnW e) (lnC e)) m
def mapM (m:M6):Bool:=mapB m.1 m.2.1 m.2.2.1 m.2.2.2.1 m.2.2.2.2.1 m.2.2.2.2.2
def GoodM (m:M6) (B:Int):Prop:=mapM m=true∧(-B≤m.2.2.2.2.1∧m.2.2.2.2.1≤B)∧(-B≤m.2.2.2.2.2∧m.2.2.2.2.2≤B)
theorem noM_not:mapM noM=false:=ψ
theorem Vu (h:hasT t e=true) (b:(0≤t.1∧t.1≤8)∧(0≤t.2.1∧t.2.1≤8)∧(0≤t.2.2∧t.2.2≤3)):lineB (lnW e) (lnC e)=true∧-40≤lnC e∧lnC e≤40:=by
 obtain ⟨x,y,k⟩:=t;obtain ⟨p,q,r,s⟩:=e;simp only [hasT] at h b;rw [Qx] at h;obtain ⟨f,g,d⟩:=b;have a:k=0∨k=1∨k=2∨k=3:=γ
 have c:(p=r→p % 2=0)∧(q=s→q % 2=0)∧(p+q) % 2=0∧(0≤p∧p≤18)∧(0≤q∧q≤18):=by
  rcases a with rfl | rfl | rfl | rfl <;> simp only [Zt,Zs,Zp,Zo,Zn,Zm,Zl,Zk,Zj,Zi,Zh,Zg] at h <;> omega
 clear h a;by_cases c1:p=r
 ·simp only [lineB,lnW,lnC,if_pos c1,decide_eq_true_eq];omega
 ·by_cases c2:q=s
  ·simp only [lineB,lnW,lnC,if_neg c1,if_pos c2,decide_eq_true_eq];omega
  ·by_cases c3:s<q
   ·simp only [lineB,lnW,lnC,if_neg c1,if_neg c2,if_pos c3,decide_eq_true_eq];omega
   ·simp only [lineB,lnW,lnC,if_neg c1,if_neg c2,if_neg c3,decide_eq_true_eq];omega
theorem Qbm {v c:Int} (h:lineB v c=true) (a : -40≤c∧c≤40):GoodM (mir v c) 80:=by
 obtain ⟨h0,h3,b1,b2,b3⟩:=line_bd h;have hv:v=0∨v=1∨v=2∨v=3:=γ;rcases hv with rfl | rfl | rfl | rfl <;> simp [GoodM,mapM,mir,mapB,mA,mB,mD,mE,mF,unitB,evenB] <;> omega
theorem Xz {a b c d e f:Int} (h:mapB a b c d e f=true):((a=1∨a=-1)∧b=0∧c=0∧(d=1∨d=-1))∨(a=0∧(b=1∨b=-1)∧(c=1∨c=-1)∧d=0):=by
 simp only [mapB,unitB,Bool.and_eq_true,Bool.or_eq_true,decide_eq_true_eq] at h;omega
theorem Qbq (h:hasT t e=true) (b:(0≤t.1∧t.1≤8)∧(0≤t.2.1∧t.2.1≤8)∧(0≤t.2.2∧t.2.2≤3)):(0≤e.1∧e.1≤100)∧(0≤e.2.1∧e.2.1≤100)∧(0≤e.2.2.1∧e.2.2.1≤100)∧(0≤e.2.2.2∧e.2.2.2≤100):=by
 obtain ⟨x,y,k⟩:=t;obtain ⟨p,q,r,s⟩:=e;simp only [hasT] at h b;rw [Qx] at h;obtain ⟨d,f,c⟩:=b;have a:k=0∨k=1∨k=2∨k=3:=γ;dsimp only;rcases a with rfl | rfl | rfl | rfl <;> simp only [Zt,Zs,Zp,Zo,Zn,Zm,Zl,Zk,Zj,Zi,Zh,Zg] at h <;> omega
theorem edg_ne (a:Kd t):edg t 0≠edg t 1∧edg t 0≠edg t 2∧edg t 1≠edg t 2:=by
 obtain ⟨x,y,k⟩:=t
 have b:k=0∨k=1∨k=2∨k=3:=by
  have h1:=a.1;have h2:=a.2;simp only at h1 h2;omega
 have o0:=Jc (x,y,k) 0;have q:∀ i,i<3→edg (x,y,k) i=if i=0 then (ue0 x y k,ue1 x y k,ue2 x y k,ue3 x y k) else if i=1 then (ue4 x y k,ue5 x y k,ue6 x y k,ue7 x y k) else (ue8 x y k,ue9 x y k,ue10 x y k,ue11 x y k):=fun i _=>rfl;have r0:e0 x y k (ue0 x y k) (ue1 x y k) (ue2 x y k) (ue3 x y k)=true:=by simp [e0,sameB]
 have r1:e1 x y k (ue4 x y k) (ue5 x y k) (ue6 x y k) (ue7 x y k)=true:=by simp [e1,sameB]
 have r2:e2 x y k (ue8 x y k) (ue9 x y k) (ue10 x y k) (ue11 x y k)=true:=by simp [e2,sameB]
 rw [q 0 γ,q 1 γ,q 2 γ];simp only [if_pos,Nat.one_ne_zero,show ¬ (2:Nat)=0 by omega,show ¬ (2:Nat)=1 by omega,if_false,ne_eq,Prod.mk.injEq];rcases b with rfl | rfl | rfl | rfl <;> simp only [Zt,Zs,Zp,Zo,Zn,Zm,Zl,Zk,Zj,Zi,Zh,Zg] at r0 r1 r2 <;> omega
def Gi (L:List T3) (t:T3) (i:Nat):E4→List Int:=fun e =>
 gix L e ++ if (0<i∧e=edg t 0)∨(1<i∧e=edg t 1)∨(2<i∧e=edg t 2) then [(L.length:Int)] else []
theorem Gi_zero (L:List T3) (t:T3):Gi L t 0=gix L:=by
 funext e
 simp [Gi]
theorem Gi_three (L:List T3) (t:T3):Gi L t 3=gix (L ++ [t]):=by
 funext e
 rw [gix_snoc];unfold Gi;by_cases h:hasT t e=true
 ·obtain ⟨i,hi,a⟩:=Vw h;have:i=0∨i=1∨i=2:=γ;rw [if_pos h,if_pos];rcases this with rfl | rfl | rfl
  ·exact Or.inl ⟨γ,a.symm⟩
  ·exact Or.inr (Or.inl ⟨γ,a.symm⟩)
  ·exact Or.inr (Or.inr ⟨γ,a.symm⟩)
 ·rw [if_neg h,if_neg];rintro (⟨_,e1⟩ | ⟨_,e1⟩ | ⟨_,e1⟩) <;> exact h (by rw [e1];exact Jc _ _)
theorem Gi_len (L:List T3) (t:T3) (i:Nat) (e:E4):(Gi L t i e).length≤L.length+1:=by
 unfold Gi;rw [List.length_append];have:=gix_len L e;split <;> simp <;> omega
theorem Gi_step (L:List T3) (a:Kd t) (i:Nat) (hi:i<3):(fun j=>if j=edg t i then Gi L t i (edg t i) ++ [(L.length:Int)] else Gi L t i j)=Gi L t (i+1):=by
 obtain ⟨n1,n2,n3⟩:=edg_ne a;funext e
 have:i=0∨i=1∨i=2:=γ;rcases this with rfl | rfl | rfl
 ·by_cases h:e=edg t 0 <;> simp [Gi,h]
 ·by_cases h:e=edg t 1
  ·subst h;simp [Gi,n1.symm]
  ·simp [Gi,h]
 ·by_cases h:e=edg t 2
  ·subst h;simp [Gi,n2.symm,n3.symm]
  ·simp [Gi,h]
theorem idx32 (a0 a1 c a3 a4 a5 d e f a9 a b:Int) (w:World) :
  (Instr.index 265 (.agg #[I a0,I a1,I c,I a3,I a4,I a5,I d,I e,I f,I a9,I a,I b]) (I 0)).run Tryz.prog w=.ok (.agg #[I a0,I a1,I c,I a3]) w ∧
  (Instr.index 265 (.agg #[I a0,I a1,I c,I a3,I a4,I a5,I d,I e,I f,I a9,I a,I b]) (I 1)).run Tryz.prog w=.ok (.agg #[I a4,I a5,I d,I e]) w ∧
  (Instr.index 265 (.agg #[I a0,I a1,I c,I a3,I a4,I a5,I d,I e,I f,I a9,I a,I b]) (I 2)).run Tryz.prog w=.ok (.agg #[I f,I a9,I a,I b]) w:=by
 refine ⟨?_, ?_, ?_⟩ <;> kernel_rfl
def TB (w:World) (B:Nat) (x y k:Int):Prop:=w.heap[B]?=some (.cells #[I x,I y,I k] 51)
theorem TB.tr (h:TB w B x y k):Tr w B x y k:=by
 unfold TB at h;simp [Tr,World.cell?,h]
theorem TB.lt (h:TB w B x y k):B<w.heap.size:=(Array.getElem?_eq_some_iff.1 h).1
theorem TB.grown (h:TB w B x y k) (hg:w.grownBy w' row) (a:some B≠row):TB w' B x y k:=(hg.block B h.lt a).trans h
theorem TB.not_row {f:List Value} (h:TB w B x y k) (d:w.ownsRow base 3 1 v n f):some B≠v.ownBlock:=by
 rcases d.2 with ⟨rfl,_⟩ | ⟨g,b,c,rfl,_,a,_⟩
 ·simp [Value.ownBlock]
 ·intro e;obtain rfl:B=g:=by simpa [Value.ownBlock] using e
  unfold TB at h;rw [h] at a;simp at a
theorem TB.ne_map {r:Nat} {ls:List (E4×Value×Nat)} (h:TB w B x y k) (a:EM w r ls c):some B≠some r:=by
 intro e;obtain rfl:B=r:=by simpa using e
 unfold EM at a;unfold TB at h;rw [h] at a
 cases a
theorem Yd (v:Value) (h:At w g 0 v):∀ j u,[v][j]?=some u→w.cell? ((⟨g,0,none⟩:Addr).add j)=some u:=by
 intro j u a;match j,a with
 | 0,a=>simp at a;subst a;simpa [Addr.add] using h
theorem Xx (n:Int):∀ u ∈ [I n],u.oneCell'=true:=by
 intro u a;simp at a;subst a;rfl
theorem Uq (x y k:Int):∀ u ∈ [I x,I y,I k],u.oneCell'=true:=by
 intro u a;simp at a;rcases a with rfl | rfl | rfl <;> rfl
theorem add_any (w0:World) (x y k:Int) (base s u rk f:Nat) (R:Option Addr) (L:List T3) (w:World) (h:triB x y k=true) (hs:Steps w0) (hL:L.length≤300) (hp:PP w0 w base s u rk (.slice R L.length f) L (gix L)) :
  Cl 249 #[.pointer (Az s),.agg #[I x,I y,I k]] w fun e w'=>e=.returned (.tuple #[])∧∃ ad' ccap',PP w0 w' base s u rk (.slice ad' (L.length+1) ccap') (L ++ [(x,y,k)]) (gix (L ++ [(x,y,k)])):=by
 have HS:=Hd hs
 have hk:Kd (x,y,k):=by
  have:=h;simp only [triB,decide_eq_true_eq] at this;exact ⟨this.1,this.2.1⟩
 have HK:=Hd hk;obtain ⟨i3,an,ag,ah,ai⟩:=info_parts inf3;have HI:=H4 an ag ah ai;obtain ⟨ar,ae,aa,ab,ac⟩:=info_parts inf23;have Z:=H4 ae aa ab ac;have B:=Hd hp;obtain ⟨vt,au⟩:∃ v,v=Value.slice R L.length f:=⟨_,rfl⟩;clear hs an ag ah ai ae aa ab ac hp hk;go_enter Tryz.func249,Tryz.ntmps249;go_wp2_with (go_at_call 188;refine (Vq _ _ _ _ h (HS.out.kept (Qb B.out.2.2.2.2.2))).mono ?_;rintro e w2 ⟨rfl,hb⟩;have aj:Hid (PP w0 w2 base s u rk (.slice R L.length f) L (gix L)∧TB w2 w.heap.size x y k):=⟨B.out.kept (Qc β1 hb),(hb.block w.heap.size ξ).trans (heap_alloc_new w _)⟩;clear hb)
 go_loopg [8] 3 (fun g s8 wx=>∃ i:Nat,i≤3∧g=3 - i∧s8=I (i:Int)∧PP w0 wx base s u rk (.slice R L.length f) L (Gi L (x,y,k) i)∧TB wx w.heap.size x y k)
 case atStart=>exact ⟨0,γ,rfl,rfl,by rw [Gi_zero];exact aj.out.1,aj.out.2⟩
 case round =>
  clear B aj;obtain ⟨i,hi,rfl,rfl,Y,hQ⟩:=hrel;obtain ⟨x0,x1,x2⟩:=idx32 (ue0 x y k) (ue1 x y k) (ue2 x y k) (ue3 x y k) (ue4 x y k) (ue5 x y k) (ue6 x y k) (ue7 x y k) (ue8 x y k) (ue9 x y k) (ue10 x y k) (ue11 x y k) wr;by_cases h1:i<3
  ·have aq:i=0∨i=1∨i=2:=γ;rcases aq with rfl | rfl | rfl
   ·have B:=Hd Y;have HQ:=Hd hQ;have hk:=HK.out;clear Y hQ;go_wp2;refine Qi (fun d hW0=>?_);have O:Bl wr d:=γ4;have T:=Hd O;have M:=Hd (B.out.kept O);have c0:At d s 0 (.slice R L.length f):=M.out.1.1;have c1:At d s 1 (.map (some u)):=M.out.1.2.1;have c2:At d wr.heap.size 0 (I (ue0 x y k)):=ν;have c3:At d wr.heap.size 1 (I (ue1 x y k)):=ν;have c4:At d wr.heap.size 2 (I (ue2 x y k)):=ν;have c5:At d wr.heap.size 3 (I (ue3 x y k)):=ν;have z1:wr.heap.size+1=d.heap.size:=by rw [hW0];simp
    clear hW0 O;obtain ⟨v0,st,l,H,j,X,G,J,t⟩:=B.out.entry (w:=(d.alloc (.cells #[I (L.length:Int)] 3)).drew) (Qg (Qb T.out)) (edg (x,y,k) 0) (L.length:Int);have a8:(Instr.mapEntry 95 (.map (some u)) (.agg #[I (ue0 x y k),I (ue1 x y k),I (ue2 x y k),I (ue3 x y k)])).run Tryz.prog (d.alloc (.cells #[I (L.length:Int)] 3)).drew=.ok (.tuple #[v0,I st]) l:=H;clear H;have a4:=B.out.2.2.2.2.1
    have E:some s≠some u:=fun e=>by
     obtain ⟨ls,c,q,_⟩:=B.out.2.2.1;exact B.out.1.apart q (by simpa using e)
    have p:some wr.heap.size≠some u:=fun e=>by
     simp at e;omega
    have m0:At l s 0 (.slice R L.length f):=j.cell (w:=(d.alloc (.cells #[I (L.length:Int)] 3)).drew) (Qk c0) (by exact E);have m1:At l s 1 (.map (some u)):=j.cell (w:=(d.alloc (.cells #[I (L.length:Int)] 3)).drew) (Qk c1) (by exact E);have m2:At l wr.heap.size 0 (I (ue0 x y k)):=j.cell (w:=(d.alloc (.cells #[I (L.length:Int)] 3)).drew) (Qk c2) (by exact p);have m3:At l wr.heap.size 1 (I (ue1 x y k)):=j.cell (w:=(d.alloc (.cells #[I (L.length:Int)] 3)).drew) (Qk c3) (by exact p);have m4:At l wr.heap.size 2 (I (ue2 x y k)):=j.cell (w:=(d.alloc (.cells #[I (L.length:Int)] 3)).drew) (Qk c4) (by exact p);have m5:At l wr.heap.size 3 (I (ue3 x y k)):=j.cell (w:=(d.alloc (.cells #[I (L.length:Int)] 3)).drew) (Qk c5) (by exact p);have a7:At l d.heap.size 0 (I (L.length:Int)):=j.cell (w:=(d.alloc (.cells #[I (L.length:Int)] 3)).drew) δ (fun e=>by simp at e;omega);have am:l.heap.size=d.heap.size+1:=by simpa using X
    have z:Hid (base≤l.heap.size∧(Gi L (x,y,k) 0 (edg (x,y,k) 0)).length+1≤1000):=⟨γ,Nat.succ_le_succ (Nt (Gi_len L (x,y,k) 0 _) γ)⟩
    have V:Hid (∀ (r:World),l.grownBy r v0.ownBlock→∀ a v,(a.block=s∨a.block=wr.heap.size)→l.cell? a=some v→r.cell? a=some v):=fun r hg a v ha hc=>hg.cell hc (fun e=>by
     have:=J _ e.symm;rcases ha with ha | ha <;> omega)
    have F:some w.heap.size≠some u:=by
     obtain ⟨ls,c,q,_⟩:=B.out.2.2.1;exact HQ.out.ne_map q
    have W:Hid (TB l w.heap.size x y k):=TB.grown (w:=(d.alloc (.cells #[I (L.length:Int)] 3)).drew) (HQ.out.grown (Qy (Qg (Qb T.out))) ξ) j F;have K:=Hd G
    have U:Hid (∀ g n r,l.grownBy r v0.ownBlock→r.ownsRow base 3 1 (.slice (Az g) ((Gi L (x,y,k) 0 (edg (x,y,k) 0)).length+1) n) ((Gi L (x,y,k) 0 (edg (x,y,k) 0)).length+1) ((Gi L (x,y,k) 0 (edg (x,y,k) 0)).map (Value.int .i64) ++ [I (L.length:Int)])→(v0.ownBlock=some g∨g=l.heap.size) →
     ∃ N,(Instr.entryStore 95 (.map (some u)) (I st) (.slice (Az g) ((Gi L (x,y,k) 0 (edg (x,y,k) 0)).length+1) n)).run Tryz.prog r=.ok () N∧r.grownBy N (some u)∧PP w0 N base s u rk (.slice R L.length f) L (Gi L (x,y,k) (0+1))):=fun g n r q1 q2 q3=>by
     obtain ⟨N,s1,s2,s3⟩:=t (.slice (Az g) ((Gi L (x,y,k) 0 (edg (x,y,k) 0)).length+1) n) r q1 q2 (q3.imp (fun q=>q.symm) (fun q=>by rw [q];rfl));exact ⟨N,s1,s2,Gi_step L hk 0 γ ▸ s3⟩
    clear G t J j X a4 M;obtain ⟨nG,A⟩:∃ m,m=(Gi L (x,y,k) 0 (edg (x,y,k) 0)).length:=⟨_,rfl⟩;obtain ⟨xG,Q⟩:∃ m,m=(Gi L (x,y,k) 0 (edg (x,y,k) 0)).map (Value.int .i64):=⟨_,rfl⟩;rw [← A,← Q] at K;rw [← A] at z;rw [← A,← Q] at U;clear A Q
    go_region_held3 (fun w'=>At w' s 0 (.slice R L.length f)∧At w' s 1 (.map (some u))∧At w' wr.heap.size 0 (I (ue0 x y k))∧At w' wr.heap.size 1 (I (ue1 x y k))∧At w' wr.heap.size 2 (I (ue2 x y k))∧At w' wr.heap.size 3 (I (ue3 x y k)))
     ((first | (refine ⟨?_, ?_, ?_, ?_, ?_, ?_⟩ <;> (first | (with_reducible assumption) | (with_reducible refine Qq ?_;with_reducible assumption) | (with_reducible refine Qq ?_;with_reducible refine Qk ?_;with_reducible assumption) | (refine V.out _ b _ _ ?_ Γ;simp;done) | (refine D.cell (V.out _ b _ _ (by simp;done) Γ) Γ)))))
     (((refine step_append_lies _ Ω (.tmp 16) (.tmp 22) 22 Ω base 3 i3 (I 0) 1 8 Tryz.underlying22 HI.out.1 HI.out.2.1 HI.out.2.2.1 HI.out.2.2.2 rfl ψ v0 nG xG Ω K.out ⟨d.heap.size,0,none⟩ 1 1 [I (L.length:Int)] Ω rfl (Yd _ a7) (Xx _) ψ (by have:=z.out.2;unfold maxLen;omega) (by have:=z.out.2;omega) z.out.1 l.heap.size rfl ?_;intro g n r o b P ak;obtain ⟨N,ao,D,C⟩:=U.out g n r b o P;have a2:=Hd C;have a6:Hid (TB N w.heap.size x y k):=(W.out.grown b (W.out.not_row K.out)).grown D F;clear C o P)))
    go_wp2;go_roundg (3 - (0+1))
    case measure=>omega
    case rel=>exact ⟨0+1,γ,rfl,σ,a2.out,a6.out⟩
   ·have B:=Hd Y;have HQ:=Hd hQ;have hk:=HK.out;clear Y hQ;go_wp2;refine Qi (fun d hW0=>?_);have O:Bl wr d:=γ4;have T:=Hd O;have M:=Hd (B.out.kept O);have c0:At d s 0 (.slice R L.length f):=M.out.1.1;have c1:At d s 1 (.map (some u)):=M.out.1.2.1;have c2:At d wr.heap.size 0 (I (ue4 x y k)):=ν;have c3:At d wr.heap.size 1 (I (ue5 x y k)):=ν;have c4:At d wr.heap.size 2 (I (ue6 x y k)):=ν;have c5:At d wr.heap.size 3 (I (ue7 x y k)):=ν;have z1:wr.heap.size+1=d.heap.size:=by rw [hW0];simp
    clear hW0 O;obtain ⟨v0,st,l,H,j,X,G,J,t⟩:=B.out.entry (w:=(d.alloc (.cells #[I (L.length:Int)] 3)).drew) (Qg (Qb T.out)) (edg (x,y,k) 1) (L.length:Int);have a8:(Instr.mapEntry 95 (.map (some u)) (.agg #[I (ue4 x y k),I (ue5 x y k),I (ue6 x y k),I (ue7 x y k)])).run Tryz.prog (d.alloc (.cells #[I (L.length:Int)] 3)).drew=.ok (.tuple #[v0,I st]) l:=H;clear H;have a4:=B.out.2.2.2.2.1
    have E:some s≠some u:=fun e=>by
     obtain ⟨ls,c,q,_⟩:=B.out.2.2.1;exact B.out.1.apart q (by simpa using e)
    have p:some wr.heap.size≠some u:=fun e=>by
     simp at e;omega
    have m0:At l s 0 (.slice R L.length f):=j.cell (w:=(d.alloc (.cells #[I (L.length:Int)] 3)).drew) (Qk c0) (by exact E);have m1:At l s 1 (.map (some u)):=j.cell (w:=(d.alloc (.cells #[I (L.length:Int)] 3)).drew) (Qk c1) (by exact E);have m2:At l wr.heap.size 0 (I (ue4 x y k)):=j.cell (w:=(d.alloc (.cells #[I (L.length:Int)] 3)).drew) (Qk c2) (by exact p);have m3:At l wr.heap.size 1 (I (ue5 x y k)):=j.cell (w:=(d.alloc (.cells #[I (L.length:Int)] 3)).drew) (Qk c3) (by exact p);have m4:At l wr.heap.size 2 (I (ue6 x y k)):=j.cell (w:=(d.alloc (.cells #[I (L.length:Int)] 3)).drew) (Qk c4) (by exact p);have m5:At l wr.heap.size 3 (I (ue7 x y k)):=j.cell (w:=(d.alloc (.cells #[I (L.length:Int)] 3)).drew) (Qk c5) (by exact p);have a7:At l d.heap.size 0 (I (L.length:Int)):=j.cell (w:=(d.alloc (.cells #[I (L.length:Int)] 3)).drew) δ (fun e=>by simp at e;omega);have am:l.heap.size=d.heap.size+1:=by simpa using X
    have z:Hid (base≤l.heap.size∧(Gi L (x,y,k) 1 (edg (x,y,k) 1)).length+1≤1000):=⟨γ,Nat.succ_le_succ (Nt (Gi_len L (x,y,k) 1 _) γ)⟩
    have V:Hid (∀ (r:World),l.grownBy r v0.ownBlock→∀ a v,(a.block=s∨a.block=wr.heap.size)→l.cell? a=some v→r.cell? a=some v):=fun r hg a v ha hc=>hg.cell hc (fun e=>by
     have:=J _ e.symm;rcases ha with ha | ha <;> omega)
    have F:some w.heap.size≠some u:=by
     obtain ⟨ls,c,q,_⟩:=B.out.2.2.1;exact HQ.out.ne_map q
    have W:Hid (TB l w.heap.size x y k):=TB.grown (w:=(d.alloc (.cells #[I (L.length:Int)] 3)).drew) (HQ.out.grown (Qy (Qg (Qb T.out))) ξ) j F;have K:=Hd G
    have U:Hid (∀ g n r,l.grownBy r v0.ownBlock→r.ownsRow base 3 1 (.slice (Az g) ((Gi L (x,y,k) 1 (edg (x,y,k) 1)).length+1) n) ((Gi L (x,y,k) 1 (edg (x,y,k) 1)).length+1) ((Gi L (x,y,k) 1 (edg (x,y,k) 1)).map (Value.int .i64) ++ [I (L.length:Int)])→(v0.ownBlock=some g∨g=l.heap.size) →
     ∃ N,(Instr.entryStore 95 (.map (some u)) (I st) (.slice (Az g) ((Gi L (x,y,k) 1 (edg (x,y,k) 1)).length+1) n)).run Tryz.prog r=.ok () N∧r.grownBy N (some u)∧PP w0 N base s u rk (.slice R L.length f) L (Gi L (x,y,k) (1+1))):=fun g n r q1 q2 q3=>by
     obtain ⟨N,s1,s2,s3⟩:=t (.slice (Az g) ((Gi L (x,y,k) 1 (edg (x,y,k) 1)).length+1) n) r q1 q2 (q3.imp (fun q=>q.symm) (fun q=>by rw [q];rfl));exact ⟨N,s1,s2,Gi_step L hk 1 γ ▸ s3⟩
    clear G t J j X a4 M;obtain ⟨nG,A⟩:∃ m,m=(Gi L (x,y,k) 1 (edg (x,y,k) 1)).length:=⟨_,rfl⟩;obtain ⟨xG,Q⟩:∃ m,m=(Gi L (x,y,k) 1 (edg (x,y,k) 1)).map (Value.int .i64):=⟨_,rfl⟩;rw [← A,← Q] at K;rw [← A] at z;rw [← A,← Q] at U;clear A Q
    go_region_held3 (fun w'=>At w' s 0 (.slice R L.length f)∧At w' s 1 (.map (some u))∧At w' wr.heap.size 0 (I (ue4 x y k))∧At w' wr.heap.size 1 (I (ue5 x y k))∧At w' wr.heap.size 2 (I (ue6 x y k))∧At w' wr.heap.size 3 (I (ue7 x y k)))
     ((first | (refine ⟨?_, ?_, ?_, ?_, ?_, ?_⟩ <;> (first | (with_reducible assumption) | (with_reducible refine Qq ?_;with_reducible assumption) | (with_reducible refine Qq ?_;with_reducible refine Qk ?_;with_reducible assumption) | (refine V.out _ b _ _ ?_ Γ;simp;done) | (refine D.cell (V.out _ b _ _ (by simp;done) Γ) Γ)))))
     (((refine step_append_lies _ Ω (.tmp 16) (.tmp 22) 22 Ω base 3 i3 (I 0) 1 8 Tryz.underlying22 HI.out.1 HI.out.2.1 HI.out.2.2.1 HI.out.2.2.2 rfl ψ v0 nG xG Ω K.out ⟨d.heap.size,0,none⟩ 1 1 [I (L.length:Int)] Ω rfl (Yd _ a7) (Xx _) ψ (by have:=z.out.2;unfold maxLen;omega) (by have:=z.out.2;omega) z.out.1 l.heap.size rfl ?_;intro g n r o b P ak;obtain ⟨N,ao,D,C⟩:=U.out g n r b o P;have a2:=Hd C;have a6:Hid (TB N w.heap.size x y k):=(W.out.grown b (W.out.not_row K.out)).grown D F;clear C o P)))
    go_wp2;go_roundg (3 - (1+1))
    case measure=>omega
    case rel=>exact ⟨1+1,γ,rfl,σ,a2.out,a6.out⟩
   ·have B:=Hd Y;have HQ:=Hd hQ;have hk:=HK.out;clear Y hQ;go_wp2;refine Qi (fun d hW0=>?_);have O:Bl wr d:=γ4;have T:=Hd O;have M:=Hd (B.out.kept O);have c0:At d s 0 (.slice R L.length f):=M.out.1.1;have c1:At d s 1 (.map (some u)):=M.out.1.2.1;have c2:At d wr.heap.size 0 (I (ue8 x y k)):=ν;have c3:At d wr.heap.size 1 (I (ue9 x y k)):=ν;have c4:At d wr.heap.size 2 (I (ue10 x y k)):=ν;have c5:At d wr.heap.size 3 (I (ue11 x y k)):=ν;have z1:wr.heap.size+1=d.heap.size:=by rw [hW0];simp
    clear hW0 O;obtain ⟨v0,st,l,H,j,X,G,J,t⟩:=B.out.entry (w:=(d.alloc (.cells #[I (L.length:Int)] 3)).drew) (Qg (Qb T.out)) (edg (x,y,k) 2) (L.length:Int);have a8:(Instr.mapEntry 95 (.map (some u)) (.agg #[I (ue8 x y k),I (ue9 x y k),I (ue10 x y k),I (ue11 x y k)])).run Tryz.prog (d.alloc (.cells #[I (L.length:Int)] 3)).drew=.ok (.tuple #[v0,I st]) l:=H;clear H;have a4:=B.out.2.2.2.2.1
    have E:some s≠some u:=fun e=>by
     obtain ⟨ls,c,q,_⟩:=B.out.2.2.1;exact B.out.1.apart q (by simpa using e)
    have p:some wr.heap.size≠some u:=fun e=>by
     simp at e;omega
    have m0:At l s 0 (.slice R L.length f):=j.cell (w:=(d.alloc (.cells #[I (L.length:Int)] 3)).drew) (Qk c0) (by exact E);have m1:At l s 1 (.map (some u)):=j.cell (w:=(d.alloc (.cells #[I (L.length:Int)] 3)).drew) (Qk c1) (by exact E);have m2:At l wr.heap.size 0 (I (ue8 x y k)):=j.cell (w:=(d.alloc (.cells #[I (L.length:Int)] 3)).drew) (Qk c2) (by exact p);have m3:At l wr.heap.size 1 (I (ue9 x y k)):=j.cell (w:=(d.alloc (.cells #[I (L.length:Int)] 3)).drew) (Qk c3) (by exact p);have m4:At l wr.heap.size 2 (I (ue10 x y k)):=j.cell (w:=(d.alloc (.cells #[I (L.length:Int)] 3)).drew) (Qk c4) (by exact p);have m5:At l wr.heap.size 3 (I (ue11 x y k)):=j.cell (w:=(d.alloc (.cells #[I (L.length:Int)] 3)).drew) (Qk c5) (by exact p);have a7:At l d.heap.size 0 (I (L.length:Int)):=j.cell (w:=(d.alloc (.cells #[I (L.length:Int)] 3)).drew) δ (fun e=>by simp at e;omega);have am:l.heap.size=d.heap.size+1:=by simpa using X
    have z:Hid (base≤l.heap.size∧(Gi L (x,y,k) 2 (edg (x,y,k) 2)).length+1≤1000):=⟨γ,Nat.succ_le_succ (Nt (Gi_len L (x,y,k) 2 _) γ)⟩
    have V:Hid (∀ (r:World),l.grownBy r v0.ownBlock→∀ a v,(a.block=s∨a.block=wr.heap.size)→l.cell? a=some v→r.cell? a=some v):=fun r hg a v ha hc=>hg.cell hc (fun e=>by
     have:=J _ e.symm;rcases ha with ha | ha <;> omega)
    have F:some w.heap.size≠some u:=by
     obtain ⟨ls,c,q,_⟩:=B.out.2.2.1;exact HQ.out.ne_map q
    have W:Hid (TB l w.heap.size x y k):=TB.grown (w:=(d.alloc (.cells #[I (L.length:Int)] 3)).drew) (HQ.out.grown (Qy (Qg (Qb T.out))) ξ) j F;have K:=Hd G
    have U:Hid (∀ g n r,l.grownBy r v0.ownBlock→r.ownsRow base 3 1 (.slice (Az g) ((Gi L (x,y,k) 2 (edg (x,y,k) 2)).length+1) n) ((Gi L (x,y,k) 2 (edg (x,y,k) 2)).length+1) ((Gi L (x,y,k) 2 (edg (x,y,k) 2)).map (Value.int .i64) ++ [I (L.length:Int)])→(v0.ownBlock=some g∨g=l.heap.size) →
     ∃ N,(Instr.entryStore 95 (.map (some u)) (I st) (.slice (Az g) ((Gi L (x,y,k) 2 (edg (x,y,k) 2)).length+1) n)).run Tryz.prog r=.ok () N∧r.grownBy N (some u)∧PP w0 N base s u rk (.slice R L.length f) L (Gi L (x,y,k) (2+1))):=fun g n r q1 q2 q3=>by
     obtain ⟨N,s1,s2,s3⟩:=t (.slice (Az g) ((Gi L (x,y,k) 2 (edg (x,y,k) 2)).length+1) n) r q1 q2 (q3.imp (fun q=>q.symm) (fun q=>by rw [q];rfl));exact ⟨N,s1,s2,Gi_step L hk 2 γ ▸ s3⟩
    clear G t J j X a4 M;obtain ⟨nG,A⟩:∃ m,m=(Gi L (x,y,k) 2 (edg (x,y,k) 2)).length:=⟨_,rfl⟩;obtain ⟨xG,Q⟩:∃ m,m=(Gi L (x,y,k) 2 (edg (x,y,k) 2)).map (Value.int .i64):=⟨_,rfl⟩;rw [← A,← Q] at K;rw [← A] at z;rw [← A,← Q] at U;clear A Q
    go_region_held3 (fun w'=>At w' s 0 (.slice R L.length f)∧At w' s 1 (.map (some u))∧At w' wr.heap.size 0 (I (ue8 x y k))∧At w' wr.heap.size 1 (I (ue9 x y k))∧At w' wr.heap.size 2 (I (ue10 x y k))∧At w' wr.heap.size 3 (I (ue11 x y k)))
     ((first | (refine ⟨?_, ?_, ?_, ?_, ?_, ?_⟩ <;> (first | (with_reducible assumption) | (with_reducible refine Qq ?_;with_reducible assumption) | (with_reducible refine Qq ?_;with_reducible refine Qk ?_;with_reducible assumption) | (refine V.out _ b _ _ ?_ Γ;simp;done) | (refine D.cell (V.out _ b _ _ (by simp;done) Γ) Γ)))))
     (((refine step_append_lies _ Ω (.tmp 16) (.tmp 22) 22 Ω base 3 i3 (I 0) 1 8 Tryz.underlying22 HI.out.1 HI.out.2.1 HI.out.2.2.1 HI.out.2.2.2 rfl ψ v0 nG xG Ω K.out ⟨d.heap.size,0,none⟩ 1 1 [I (L.length:Int)] Ω rfl (Yd _ a7) (Xx _) ψ (by have:=z.out.2;unfold maxLen;omega) (by have:=z.out.2;omega) z.out.1 l.heap.size rfl ?_;intro g n r o b P ak;obtain ⟨N,ao,D,C⟩:=U.out g n r b o P;have a2:=Hd C;have a6:Hid (TB N w.heap.size x y k):=(W.out.grown b (W.out.not_row K.out)).grown D F;clear C o P)))
    go_wp2;go_roundg (3 - (2+1))
    case measure=>omega
    case rel=>exact ⟨2+1,γ,rfl,σ,a2.out,a6.out⟩
  ·obtain rfl:i=3:=γ;rw [Gi_three] at Y;have B:=Hd Y;have p0:=Y.1.1;have fz:=Y.1.2.2.2;have zp:=Y.1.lt;have zb:=Hd Y.2.2.2.2.1.2.2.2.2.2.2.2
   have af:Hid (some s≠(Value.slice R L.length f).ownBlock):=fun e=>by
    have:=(Vr Y.2.1 s e.symm).1;have:=Y.2.2.2.2.1.2.1;omega
   obtain ⟨t0,t1,t2⟩:=hQ.tr;have zt:=hQ.lt;clear Y hQ x0 x1 x2;go_wp2;go_region_law ((refine step_append_lies _ Ω (.tmp 31) (.tmp 33) 55 Ω base 51 ar (.agg #[I 0,I 0,I 0]) 3 24 Tryz.underlying55 Z.out.1 Z.out.2.1 Z.out.2.2.1 Z.out.2.2.2 rfl ψ (.slice R L.length f) L.length (flatV L) Ω (Qj B.out.2.1 δ4) ⟨wr.heap.size,0,none⟩ 1 1 [I x,I y,I k] Ω rfl (Xg wr x y k) (Uq x y k) ψ Ξ γ (Nt zb.out ξ) (wr.heap.size+1) ξ ?_;intro g n r o b P ak;have q0:At r s 0 (.slice R L.length f):=b.cell (by first | exact Qq (Qk p0) | exact Qk (Qq p0)) af.out;have f0:Fn r s 0:=(Fo (a:=⟨s,0,none⟩) (b.block s ω af.out)).trans (by simp [go_sem,fz,zp]);have ap:Hid (PP w0 (r.setCell ⟨s,0,none⟩ (.slice (Az g) (L.length+1) n)) base s u rk (.slice (Az g) (L.length+1) n) (L ++ [(x,y,k)]) (gix (L ++ [(x,y,k)]))):=B.out.pushed δ4 b o (P.imp id (fun e=>e.trans ξ));clear o b P))
   all_goals
    go_wp2;go_end0
    exact ⟨rfl,_,_,ap.out⟩
theorem PP.made (w:World):PP (w.alloc (.cells #[SN,.map none,.map none] 98)) ((((w.alloc (.cells #[SN,.map none,.map none] 98)).alloc (.map #[] 0)).alloc (.map #[] 0)).alloc (.cells #[SN,.map (some (w.heap.size+1)),.map (some (w.heap.size+2))] 98)) (w.heap.size+4) (w.heap.size+3) (w.heap.size+1) (w.heap.size+2) SN [] (gix []):=by
 refine ⟨⟨?_, ?_, ?_, ?_⟩,by simpa [flatV] using World.ownsRow_nil _ _ _ _, ?_, ?_,⟨ξ,γ,ξ,γ,ξ,γ,γ,ξ⟩,Qb β2⟩
 ·simp [go_sem]
 ·simp [go_sem]
 ·simp [go_sem]
 ·simp [go_sem]
 ·refine ⟨[],0, ?_,Ga,fun e _=>gix_nil e,fun e v h=>by simp [lk] at h,fun e a v v' _ h=>by simp [lk] at h⟩;have e1:=Qbp (w.alloc (.cells #[SN,.map none,.map none] 98));have e2:=e1.grown (World.grownBy_alloc _ (.map #[] 0) none) ξ;have e3:=e2.grown (World.grownBy_alloc _ (.cells #[SN,.map (some (w.heap.size+1)),.map (some (w.heap.size+2))] 98) none) ξ;simpa using e3
 ·refine ⟨0, ?_,Ga⟩;have e1:=Qbp ((w.alloc (.cells #[SN,.map none,.map none] 98)).alloc (.map #[] 0));have e2:=e1.grown (World.grownBy_alloc _ (.cells #[SN,.map (some (w.heap.size+1)),.map (some (w.heap.size+2))] 98) none) ξ;simpa using e2
theorem Ql (w:World) (b o:Nat) (v:Value):w.grownBy (w.setCell ⟨b,o,none⟩ v) (some b):=by
 have a:=Below.setCell (w:=w) (p:=⟨b,o,none⟩) (Below.refl b w) (Nr _) v;exact ⟨a.os,a.tape,a.output,a.size,fun k _ c=>Below.heap_setCell _ _ _ k (fun e1=>c (by rw [e1]))⟩
theorem Ji {a b c:World} (h:a.grownBy b row) (k:b.grownBy c row):a.grownBy c row :=
 ⟨k.os.trans h.os,k.tape.trans h.tape,k.output.trans h.output,Nt h.size k.size,fun i hi d=>(k.block i (Nl hi h.size) d).trans (h.block i hi d)⟩
theorem PP.rebase {t i:World} {a r:Nat} {q:Value} {G:E4→List Int} (h:PP t w base a d f q L G) (j:Bl i t) (hg:w.grownBy w' (some r)) (hr:i.heap.size≤r) (h1:r≠a) (h2:r≠d) (h3:r≠f) (h4:r<base):PP i w' base a d f q L G:=by
 obtain ⟨H,o,⟨ls,C,b1,b2,b3,b4,B⟩,⟨c,J,b⟩,⟨a1,x,a3,a4,a5,y,z,A⟩,p⟩:=h;have m:=j.size
 have l:∀ {v:Value} {n:Nat} {e:TypeId} {s:Nat} {u:List Value},w.ownsRow base e s v n u→v.ownBlock=none∨v.ownBlock≠some r:=fun {v n e s u} F=>by
  cases hu:v.ownBlock with
  | none=>exact Or.inl rfl
  | some g =>
   refine Or.inr (fun e1=>?_);have:=(F.lt g hu).1;simp at e1;omega
 refine ⟨H.grown hg (fun e=>h1 (by simpa using e.symm)),o.kept hg (l o),⟨ls,C,b1.grown hg (fun e=>h2 (by simpa using e.symm)),b2,b3,fun e v D=>?_,B⟩,⟨c,J.grown hg (fun e=>h3 (by simpa using e.symm)),b⟩,⟨γ,x,γ,a4,γ,y,z,Nt A hg.size⟩, ?_⟩
 ·obtain ⟨d1,d2,d3⟩:=b4 e v D;exact ⟨d1.kept hg (l d1),d2,d3⟩
 ·exact (j.trans (p.mono m)).grown hg (Nt m p.size) (fun k E=>by simp at E;omega)
theorem of_any (W H b off B:Nat) (zs:List Int) (w:World) (hs:Steps w) (hr:Row w (Ad b off) zs) (O:1≤W∧W≤8) (N:1≤H∧H≤8) (E:zs.length=W*H) (j:maskB zs=true) :
  Cl 171 #[I (W:Int),I (H:Int),.slice (Ad b off) zs.length B] w fun e w'=>∃ c d base pb ra rk,e=.returned (.agg #[.slice c (ty zs W H).length d,.map (some ra),.map (some rk)])∧PP w w' base pb ra rk (.slice c (ty zs W H).length d) (ty zs W H) (gix (ty zs W H)):=by
 have T:=Hd hr;have u:Hid (Steps (w.alloc (.cells #[SN,.map none,.map none] 98))):=hs.kept β1;have U:zs.length≤64:=by rw [E];exact Nt (Nat.mul_le_mul O.2 N.2) ψ
 have R:Hid (∀ z∈zs,0≤z∧z≤15):=by
  show ∀ z∈zs,0≤z∧z≤15
  simpa [maskB] using j
 have L:=Hd E;clear hr j E hs;obtain ⟨w1,w8⟩:=O;obtain ⟨h1,h8⟩:=N;have X:=@run_makeMap Tryz.prog;go_enter Tryz.func171,Tryz.ntmps171;go_wp2;go_loopg [15] H (fun g G s=>∃ (y:Nat) (c:Option Addr) (d:Nat),y≤H∧g=H - y∧G=I (y:Int)∧PP (w.alloc (.cells #[SN,.map none,.map none] 98)) s (w.heap.size+4) (w.heap.size+3) (w.heap.size+1) (w.heap.size+2) (.slice c (ty zs W y).length d) (ty zs W y) (gix (ty zs W y)))
 case atStart=>exact ⟨0,none,0,γ,rfl,rfl,by simpa [ty] using PP.made w⟩
 case round =>
  obtain ⟨y,c,d,hy,rfl,rfl,hT⟩:=hrel;have a:=Hd hT;clear hT;by_cases hy1:y<H
  ·have iy:(y:Int)<(H:Int):=γ;go_wp2;go_loopg [19] W (fun g J s=>∃ (x:Nat) (c:Option Addr) (d:Nat),x≤W∧g=W - x∧J=I (x:Int)∧PP (w.alloc (.cells #[SN,.map none,.map none] 98)) s (w.heap.size+4) (w.heap.size+3) (w.heap.size+1) (w.heap.size+2) (.slice c (ty zs W y ++ tx zs W y x).length d) (ty zs W y ++ tx zs W y x) (gix (ty zs W y ++ tx zs W y x)))
   case atStart=>exact ⟨0,c,d,γ,rfl,rfl,by rw [tx_zero,List.append_nil];exact a.out⟩
   case round =>
    clear a;obtain ⟨x,c,d,hx,rfl,rfl,hT⟩:=hrel;have a:=Hd hT;clear hT;by_cases hx1:x<W
    ·have ix:(x:Int)<(W:Int):=γ;go_wp2;go_loopg [22] 4 (fun g K s=>∃ (k:Nat) (c:Option Addr) (d:Nat),k≤4∧g=4 - k∧K=I (k:Int)∧PP (w.alloc (.cells #[SN,.map none,.map none] 98)) s (w.heap.size+4) (w.heap.size+3) (w.heap.size+1) (w.heap.size+2) (.slice c (ty zs W y ++ tx zs W y x ++ tk zs W x y k).length d) (ty zs W y ++ tx zs W y x ++ tk zs W x y k) (gix (ty zs W y ++ tx zs W y x ++ tk zs W x y k)))
     case atStart=>exact ⟨0,c,d,γ,rfl,rfl,by rw [tk_zero,List.append_nil];exact a.out⟩
     case round =>
      clear a;obtain ⟨k,c,d,hk,rfl,rfl,hT⟩:=hrel;have a:=Hd hT;clear hT;by_cases hk1:k<4
      ·have ik:(k:Int)<4:=γ
       have F:y*W+W≤W*H:=by
        have:=Nat.mul_le_mul_right W (show y+1≤H by omega);rw [Nat.succ_mul,Nat.mul_comm H W] at this;exact this
       have j:y*W+x<zs.length:=by rw [L.out];omega
       have r:y*W≤64:=by have:=L.out;omega
       obtain ⟨b',Q,M,D⟩:=(T.out.kept (Qc β1 a.out.2.2.2.2.2)) (y*W+x) j;simp at M;obtain ⟨rfl,rfl⟩:=M;have l:=R.out _ (Lm j);have h:Hid (bitAt zs W x y k=bitB (zs[y*W+x]) k):=by show _=_;simp [bitAt,j]
       obtain ⟨z,P⟩:∃ z,z=zs[y*W+x]:=⟨_,rfl⟩;rw [← P] at D l h;have i:=bit_eq z (k:Int) l.1 l.2 γ γ;rw [Int.toNat_natCast] at i;have a2:(0:Int)≤(y:Int)*(W:Int):=by rw [← Int.natCast_mul];omega
       have a6:(y:Int)*(W:Int)≤64:=by rw [← Int.natCast_mul];omega
       have yx:(y:Int)*(W:Int)+(x:Int)=((y*W+x:Nat):Int):=ξ;have Z:((y*W+x:Nat):Int)<(zs.length:Int):=γ;have Y:(0:Int)≤((y*W+x:Nat):Int):=γ;obtain ⟨m,f⟩:∃ m,m=y*W+x:=⟨_,rfl⟩;rw [← f] at D yx Z Y;have a7:=bk D;clear P j F r f
       cases hbit:bitB z (k:Int)
       ·rw [hbit] at i;go_wp2;go_roundg (4 - (k+1))
        case measure=>omega
        case rel=>exact ⟨k+1,c,d,γ,rfl,σ,by rw [tk_no (h.out.trans hbit)];exact a.out⟩
       ·rw [hbit] at i
        have o:(ty zs W y ++ tx zs W y x ++ tk zs W x y k).length≤300:=by
         have q1:=Yu zs W y w8;have q2:=tx_len zs W y x;have q3:=tk_len zs W x y k;simp only [List.length_append];omega
        have q:triB (x:Int) (y:Int) (k:Int)=true:=by simp [triB];omega
        go_wp2_with (go_at_call 249;refine (add_any (w.alloc (.cells #[SN,.map none,.map none] 98)) (x:Int) (y:Int) (k:Int) _ _ _ _ d c (ty zs W y ++ tx zs W y x ++ tk zs W x y k) _ q u.out o a.out).mono ?_;rintro e w2 ⟨rfl,A,C,n⟩;have t:=Hd n;clear n)
        go_roundg (4 - (k+1))
        case measure=>omega
        case rel =>
         have V:ty zs W y ++ tx zs W y x ++ tk zs W x y (k+1)=(ty zs W y ++ tx zs W y x ++ tk zs W x y k) ++ [((x:Int),(y:Int),(k:Int))]:=by rw [tk_yes (h.out.trans hbit),← List.append_assoc]
         refine ⟨k+1,A,C,γ,rfl,σ, ?_⟩;rw [V,List.length_append,List.length_singleton];exact t.out
      ·go_wp2;go_roundg (W - (x+1))
       case measure=>omega
       case rel =>
        obtain rfl:k=4:=γ;exact ⟨x+1,c,d,γ,rfl,σ,by rw [Qbj,← List.append_assoc];exact a.out⟩
    ·have ix:¬ (x:Int)<(W:Int):=γ;go_wp2;go_roundg (H - (y+1))
     case measure=>omega
     case rel =>
      obtain rfl:x=W:=γ;exact ⟨y+1,c,d,γ,rfl,σ,by rw [Qbi];exact a.out⟩
  ·have iy:¬ (y:Int)<(H:Int):=γ;obtain rfl:y=H:=γ;obtain ⟨q0,q1,q2,_⟩:=a.out.1;have c0:=(a.out.2.2.2.2.2.cell (p:=⟨w.heap.size,0,none⟩) ξ).trans (by simp [go_sem]:(w.alloc (.cells #[SN,.map none,.map none] 98)).cell? ⟨w.heap.size,0,none⟩=some SN);have c1:=(a.out.2.2.2.2.2.cell (p:=⟨w.heap.size,1,none⟩) ξ).trans (by simp [go_sem]:(w.alloc (.cells #[SN,.map none,.map none] 98)).cell? ⟨w.heap.size,1,none⟩=some (.map none));have c2:=(a.out.2.2.2.2.2.cell (p:=⟨w.heap.size,2,none⟩) ξ).trans (by simp [go_sem]:(w.alloc (.cells #[SN,.map none,.map none] 98)).cell? ⟨w.heap.size,2,none⟩=some (.map none));have f0:=(a.out.2.2.2.2.2.frozen (p:=⟨w.heap.size,0,none⟩) ξ).trans (by simp [go_sem]:(w.alloc (.cells #[SN,.map none,.map none] 98)).frozen? ⟨w.heap.size,0,none⟩=false);have f1:=(a.out.2.2.2.2.2.frozen (p:=⟨w.heap.size,1,none⟩) ξ).trans (by simp [go_sem]:(w.alloc (.cells #[SN,.map none,.map none] 98)).frozen? ⟨w.heap.size,1,none⟩=false);have f2:=(a.out.2.2.2.2.2.frozen (p:=⟨w.heap.size,2,none⟩) ξ).trans (by simp [go_sem]:(w.alloc (.cells #[SN,.map none,.map none] 98)).frozen? ⟨w.heap.size,2,none⟩=false);go_wp2;refine bodyPost_ret (v:=.agg #[.slice c (ty zs W y).length d,.map (some (w.heap.size+1)),.map (some (w.heap.size+2))]) ?_ rfl ⟨_,_,_,_,_,_,rfl,a.out.rebase β1 (Ji (Ji (Ql _ _ 0 _) (Ql _ _ 1 _)) (Ql _ _ 2 _)) (Nr _) γ γ γ γ⟩;simp [results,Tryz.results171,go_sem,c0,c1,c2]
def jE (i:Nat) (e:E4) (G:List Int):List (E4×Int):=(G.filter fun j=>decide (j≠(i:Int))).map fun j=>(e,j)
theorem jE_yes {G:List Int} (a:m<G.length) (h:G[m]≠(i:Int)):jE i e (G.take (m+1))=jE i e (G.take m) ++ [(e,G[m])]:=by
 unfold jE;rw [List.take_succ_eq_append_getElem a,List.filter_append,List.map_append];simp [h]
theorem jE_no {G:List Int} (a:m<G.length) (h:G[m]=(i:Int)):jE i e (G.take (m+1))=jE i e (G.take m):=by
 unfold jE;rw [List.take_succ_eq_append_getElem a,List.filter_append,List.map_append];simp [h]
theorem jE_len (i:Nat) (e:E4) (G:List Int):(jE i e G).length≤G.length:=by
 unfold jE;rw [List.length_map];exact List.length_filter_le _ _
def jl (L:List T3) (t:T3) (i n:Nat):List (E4×Int):=(List.range n).flatMap fun k=>jE i (edg t k) (gix L (edg t k))
theorem jl_zero (L:List T3) (t:T3) (i:Nat):jl L t i 0=[]:=by simp [jl]
theorem Kx (L:List T3) (t:T3) (i n:Nat):jl L t i (n+1)=jl L t i n ++ jE i (edg t n) (gix L (edg t n)):=by simp [jl,List.range_succ,List.flatMap_append]
theorem jl_len (L:List T3) (t:T3) (i n:Nat):(jl L t i n).length≤n*L.length:=by
 induction n with
 | zero=>simp [jl]
 | succ n ih =>
  rw [Kx,List.length_append,Nat.succ_mul];have:=jE_len i (edg t n) (gix L (edg t n));have:=gix_len L (edg t n);omega
theorem Yz {j:Int}:(e,j)∈jl L t i n↔∃ k,k<n∧e=edg t k∧∃ m:Nat,∃ h:m<L.length,j=(m:Int)∧m≠i∧hasT L[m] e=true:=by
 simp only [jl,jE,List.mem_flatMap,List.mem_range,List.mem_map,List.mem_filter,decide_eq_true_eq,gix_mem];constructor
 ·rintro ⟨k,b,a,⟨⟨m,c,rfl,f⟩,d⟩,g⟩;simp only [Prod.mk.injEq] at g;obtain ⟨rfl,rfl⟩:=g;exact ⟨k,b,rfl,m,c,rfl,γ,f⟩
 ·rintro ⟨k,b,rfl,m,c,rfl,d,f⟩;exact ⟨k,b,(m:Int),⟨⟨m,c,rfl,f⟩,γ⟩,rfl⟩
def flatJ (l:List (E4×Int)):List Value:=l.flatMap fun t=>[I t.1.1,I t.1.2.1,I t.1.2.2.1,I t.1.2.2.2,I t.2]
theorem Yg (l m:List (E4×Int)):flatJ (l ++ m)=flatJ l ++ flatJ m:=by simp [flatJ,List.flatMap_append]
theorem Gd:∀ (l:List (E4×Int)) (i:Nat) (h:i<l.length),(flatJ l)[i*5]?=some (I l[i].1.1)∧(flatJ l)[i*5+1]?=some (I l[i].1.2.1)∧(flatJ l)[i*5+2]?=some (I l[i].1.2.2.1)∧(flatJ l)[i*5+3]?=some (I l[i].1.2.2.2)∧(flatJ l)[i*5+4]?=some (I l[i].2)
 | [],i,h=>by simp at h
 | t :: l,0,h=>by simp [flatJ]
 | t :: l,i+1,h=>by
  have b:=Gd l i (by simpa using h);have e:flatJ (t :: l)=[I t.1.1,I t.1.2.1,I t.1.2.2.1,I t.1.2.2.2,I t.2] ++ flatJ l:=by simp [flatJ]
  have q:∀ o,(flatJ (t :: l))[(i+1)*5+o]?=(flatJ l)[i*5+o]?:=fun o=>by
   rw [e,List.getElem?_append_right ω];congr 1
   simp;omega
  have a:=q 0;simp only [Nat.add_zero] at a;simp only [List.getElem_cons_succ];rw [a,q 1,q 2,q 3,q 4];exact b
def JRow (w:World) (a:Option Addr) (l:List (E4×Int)):Prop := ∀ i (h:i<l.length),∃ g,a=Az g∧At w g (i*5) (I l[i].1.1)∧At w g (i*5+1) (I l[i].1.2.1)∧At w g (i*5+2) (I l[i].1.2.2.1)∧At w g (i*5+3) (I l[i].1.2.2.2)∧At w g (i*5+4) (I l[i].2)
theorem JRow.kept {a:Option Addr} {l:List (E4×Int)} (h:JRow w a l) (b:Bl w w'):JRow w' a l:=fun i hi=>by
 obtain ⟨g,e,h0,h1,h2,h3,h4⟩:=h i hi;exact ⟨g,e,Qa b h0,Qa b h1,Qa b h2,Qa b h3,Qa b h4⟩
theorem own_joints {l:List (E4×Int)} (h:w.ownsRow base 165 5 v l.length (flatJ l)):∃ a b,v=.slice a l.length b∧JRow w a l:=by
 rcases h.2 with ⟨rfl,h0⟩ | ⟨g,b,c,rfl,_⟩
 ·exact ⟨none,0,by rw [h0],fun i hi=>by omega⟩
 ·refine ⟨Az g,b,rfl,fun i hi=>⟨g,rfl, ?_⟩⟩;have f:=Gd l i hi;exact ⟨(h.cellAt _ γ).trans f.1,(h.cellAt _ γ).trans f.2.1,(h.cellAt _ γ).trans f.2.2.1,(h.cellAt _ γ).trans f.2.2.2.1,(h.cellAt _ γ).trans f.2.2.2.2⟩
def JW (w:World) (base:Nat) (a:Option Addr) (l:List (E4×Int)):Prop:=JRow w a l∧∀ g,a=Az g→base≤g∧∃ cur,w.heap[g]?=some (.cells cur 165)
theorem own_jw {l:List (E4×Int)} (h:w.ownsRow base 165 5 v l.length (flatJ l)):∃ a c,v=.slice a l.length c∧JW w base a l:=by
 obtain ⟨a,c,e,hr⟩:=own_joints h;refine ⟨a,c,e,hr,fun g hg=>?_⟩;subst e hg;rcases h.2 with ⟨e1,_⟩ | ⟨b,f,d,e1,i,j,_⟩
 ·simp at e1
 ·simp only [Value.slice.injEq,Option.some.injEq,Addr.mk.injEq] at e1;obtain ⟨⟨rfl,_⟩,_⟩:=e1;exact ⟨i,d,j⟩
theorem JW.grown {a:Option Addr} {l:List (E4×Int)} (h:JW w base a l) (hg:w.grownBy w' row) (c:∀ g,row=some g→a≠Az g):JW w' base a l:=by
 refine ⟨fun i hi=>?_,fun g f=>?_⟩
 ·obtain ⟨g,e,h0,h1,h2,h3,h4⟩:=h.1 i hi;have b:some g≠row:=fun e1=>c g e1.symm e;exact ⟨g,e,hg.cell h0 b,hg.cell h1 b,hg.cell h2 b,hg.cell h3 b,hg.cell h4 b⟩
 ·obtain ⟨h1,d,h2⟩:=h.2 g f;exact ⟨h1,d,(hg.block g (Array.getElem?_eq_some_iff.1 h2).1 (fun e1=>c g e1.symm f)).trans h2⟩
theorem JW.kept {a:Option Addr} {l:List (E4×Int)} (h:JW w base a l) (b:Bl w w'):JW w' base a l:=h.grown (Qy b) ξ
theorem JW.mono {base':Nat} {a:Option Addr} {l:List (E4×Int)} (h:JW w base a l) (c:base'≤base):JW w base' a l:=⟨h.1,fun g b=>⟨Nt c (h.2 g b).1,(h.2 g b).2⟩⟩
theorem JW.not_row {b2:Nat} {a:Option Addr} {l:List (E4×Int)} {k:List Value} (h:JW w base a l) (j:w.ownsRow b2 3 1 v n k):∀ g,v.ownBlock=some g→a≠Az g:=fun g hg i=>by
 obtain ⟨_,f,h2⟩:=h.2 g i;rcases j.2 with ⟨rfl,_⟩ | ⟨b,e,d,rfl,_,c,_⟩
 ·simp [Value.ownBlock] at hg
 ·obtain rfl:b=g:=by simpa [Value.ownBlock] using hg
  rw [h2] at c;simp at c
def EB (w:World) (B:Nat) (p q r s:Int):Prop:=w.heap[B]?=some (.cells #[I p,I q,I r,I s] 42)
theorem EB.cells (h:EB w B p q r s):At w B 0 (I p)∧At w B 1 (I q)∧At w B 2 (I r)∧At w B 3 (I s):=by
 unfold EB at h;simp [World.cell?,h]
theorem EB.lt (h:EB w B p q r s):B<w.heap.size:=(Array.getElem?_eq_some_iff.1 h).1
theorem EB.grown (h:EB w B p q r s) (hg:w.grownBy w' row) (a:some B≠row):EB w' B p q r s:=(hg.block B h.lt a).trans h
theorem EB.kept (h:EB w B p q r s) (a:Bl w w'):EB w' B p q r s:=h.grown (Qy a) ξ
theorem EB.not_row {f:List Value} (h:EB w B p q r s) (d:w.ownsRow base 165 5 v n f):some B≠v.ownBlock:=by
 rcases d.2 with ⟨rfl,_⟩ | ⟨g,b,c,rfl,_,a,_⟩
 ·simp [Value.ownBlock]
 ·intro e;obtain rfl:B=g:=by simpa [Value.ownBlock] using e
  unfold EB at h;rw [h] at a;simp at a
def PB (w:World) (B:Nat) (ad:Option Addr) (n cc ra rk:Nat):Prop:=At w B 0 (.slice ad n cc)∧At w B 1 (.map (some ra))∧At w B 2 (.map (some rk))
theorem PB.kept {e:Nat} {b:Option Addr} (h:PB w B b n c d e) (a:Bl w w'):PB w' B b n c d e:=⟨Qa a h.1,Qa a h.2.1,Qa a h.2.2⟩
def JM (w wx:World) (ad:Option Addr) (n cc ra rk:Nat) (J:List (E4×Int)) (v:Value):Prop :=
 wx.ownsRow (w.heap.size+1) 165 5 v J.length (flatJ J)∧Bl w wx∧PB wx w.heap.size ad n cc ra rk∧w.heap.size+1≤wx.heap.size
theorem JM.kept {f:World} {b:Option Addr} {e:Nat} {J:List (E4×Int)} (h:JM w f b n c d e J v) (a:Bl f w'):JM w w' b n c d e J v :=
 ⟨Qj h.1 a,Qc h.2.1 a,h.2.2.1.kept a,Nt h.2.2.2 a.size⟩
theorem JM.more {m d f:World} {g:Option Addr} {k l:Nat} {J:List (E4×Int)} {v':Value} {j:Int} (h:JM w m g n i k l J v) (o:Bl m d) (hg:d.grownBy f v.ownBlock) (c:f.ownsRow (w.heap.size+1) 165 5 v' (J.length+1) (flatJ J ++ [I e.1,I e.2.1,I e.2.2.1,I e.2.2.2,I j])):JM w f g n i k l (J ++ [(e,j)]) v':=by
 have b:=h.kept o;have a:=Below.grown (Below.refl (w.heap.size+1) d) hg b.2.2.2 (Qw b.1);have q:=a.size;refine ⟨?_,b.2.1.trans (a.mono γ),⟨?_, ?_, ?_⟩,by have:=b.2.2.2;omega⟩
 ·rw [Yg,List.length_append];simpa [flatJ] using c
 ·exact (a.cell (p:=⟨w.heap.size,0,none⟩) θ).trans b.2.2.1.1
 ·exact (a.cell (p:=⟨w.heap.size,1,none⟩) θ).trans b.2.2.1.2.1
 ·exact (a.cell (p:=⟨w.heap.size,2,none⟩) θ).trans b.2.2.1.2.2
theorem infJ:(Tryz.prog.info? 165).map (fun i=>(i.zero,i.size,i.bytes))=some (some (.agg #[I 0,I 0,I 0,I 0,I 0]),5,40):=η
theorem Um (w:World) (T:TypeId) (a b c d e:Int):∀ j u,([I a,I b,I c,I d,I e])[j]?=some u→(w.alloc (.cells #[I a,I b,I c,I d,I e] T)).cell? ((⟨w.heap.size,0,none⟩:Addr).add j)=some u:=by
 intro j u f;match j,f with
 | 0,f=>simp at f;subst f;simp [go_sem,Addr.add]
 | 1,f=>simp at f;subst f;simp [go_sem,Addr.add]
 | 2,f=>simp at f;subst f;simp [go_sem,Addr.add]
 | 3,f=>simp at f;subst f;simp [go_sem,Addr.add]
 | 4,f=>simp at f;subst f;simp [go_sem,Addr.add]
theorem Uv (w:World) (t q A i:Nat) (ad:Option Addr) (L:List T3) (x y k:Int) (hs:Steps w) (s:PA w ad q L) (hi:i<L.length) (ht:(x,y,k)=L[i]) (hL:L.length≤300) (aa:(0≤x∧x≤8)∧(0≤y∧y≤8)∧(0≤k∧k≤3)) :
  Cl 99 #[.agg #[.slice ad L.length t,.map (some q),.map (some A)],I (i:Int)] w fun e w'=>∃ v,e=.returned v∧w'.ownsRow (w.heap.size+1) 165 5 v (jl L (x,y,k) i 3).length (flatJ (jl L (x,y,k) i 3))∧Bl w w':=by
 have a8:=Hd hs;have a7:=Hd s;obtain ⟨i5,K,N,O,P⟩:=info_parts infJ;have Q:=H4 K N O P;obtain ⟨tg,rfl,t0,t1,t2⟩:=s.1 i hi;rw [← ht] at t0 t1 t2;dsimp only at t0 t1 t2;have zt:=Bt t0;have p:triB x y k=true:=by simp [triB];omega
 have D:=Hd p;have j1:(i:Int)<(L.length:Int):=γ;have j0:(0:Int)≤(i:Int):=γ;clear hs s K N O P p aa ht;go_enter Tryz.func99,Tryz.ntmps99;go_wp2_with (go_at_call 188;refine (Vq _ _ _ _ D.out (a8.out.kept Θ)).mono ?_;rintro e wq ⟨rfl,V⟩;have F:JM w wq (Az tg) L.length t q A [] SN:=⟨by simpa [flatJ] using World.ownsRow_nil _ _ _ _,Qc β1 V,PB.kept (by simp [PB,go_sem]) V,by have:=V.size;simp at this;omega⟩;have R:=Hd F;clear V F t0 t1 t2 zt)
 go_loopg [5,16] 3 (fun gk s5 af W=>∃ e:Nat,e≤3∧gk=3 - e∧af=I (e:Int)∧JM w W (Az tg) L.length t q A (jl L (x,y,k) i e) s5)
 case atStart=>exact ⟨0,γ,rfl,rfl,by rw [jl_zero];exact R.out⟩
 case round =>
  clear R;obtain ⟨e,he,rfl,rfl,z⟩:=hrel;obtain ⟨vA,ab⟩:∃ u,u=u5:=⟨_,rfl⟩;subst ab;have h:=Hd z;obtain ⟨p0,p1,p2⟩:=z.2.2.1;have zp:=Bt p0;have ah:w.heap.size<wr.heap.size+1:=γ;clear z;by_cases he1:e<3
  ·have ie:(e:Int)<3:=γ;obtain ⟨a,c,d,f,hq⟩:∃ a c d f,edg (x,y,k) e=(a,c,d,f):=⟨_,_,_,_,rfl⟩
   have hx:(Instr.index 265 (.agg #[I (ue0 x y k),I (ue1 x y k),I (ue2 x y k),I (ue3 x y k),I (ue4 x y k),I (ue5 x y k),I (ue6 x y k),I (ue7 x y k),I (ue8 x y k),I (ue9 x y k),I (ue10 x y k),I (ue11 x y k)]) (I (e:Int))).run Tryz.prog wr=.ok (.agg #[I a,I c,I d,I f]) wr:=by
    obtain ⟨a0,a1,a2⟩:=idx32 (ue0 x y k) (ue1 x y k) (ue2 x y k) (ue3 x y k) (ue4 x y k) (ue5 x y k) (ue6 x y k) (ue7 x y k) (ue8 x y k) (ue9 x y k) (ue10 x y k) (ue11 x y k) wr;have h3:e=0∨e=1∨e=2:=γ;rcases h3 with rfl | rfl | rfl
    ·simp only [edg,if_true,Prod.mk.injEq] at hq;obtain ⟨rfl,rfl,rfl,rfl⟩:=hq;exact a0
    ·simp only [edg,if_true,if_false,Nat.one_ne_zero,Prod.mk.injEq] at hq;obtain ⟨rfl,rfl,rfl,rfl⟩:=hq;exact a1
    ·simp only [edg,if_false,show ¬ (2:Nat)=0 by omega,show ¬ (2:Nat)=1 by omega,Prod.mk.injEq] at hq;obtain ⟨rfl,rfl,rfl,rfl⟩:=hq;exact a2
   have R:=Hd hq;clear hq;obtain ⟨ga,gc,J,n⟩:=a7.out.2 (a,c,d,f);have B:=Hd J
   have r:Hid (EB (wr.alloc (.cells #[I a,I c,I d,I f] 42)) wr.heap.size a c d f):=by
    have:EB (wr.alloc (.cells #[I a,I c,I d,I f] 42)) wr.heap.size a c d f:=heap_alloc_new wr _;exact this
   have ae:(Instr.lookup 95 (.map (some q)) (.agg #[I a,I c,I d,I f]) false).run Tryz.prog (wr.alloc (.cells #[I a,I c,I d,I f] 42))=.ok (.slice ga (gix L (a,c,d,f)).length gc) (wr.alloc (.cells #[I a,I c,I d,I f] 42)):=n _ (Qb h.out.2.1);have C:Hid (JM w (wr.alloc (.cells #[I a,I c,I d,I f] 42)) (Az tg) L.length t q A (jl L (x,y,k) i e) vA):=h.out.kept β1;obtain ⟨T,H⟩:∃ b,b=wr.heap.size:=⟨_,rfl⟩;clear J n;go_wp2;obtain ⟨G,E⟩:∃ G,G=gix L (a,c,d,f):=⟨_,rfl⟩;have HG:=Hd E;rw [← E] at B;have aj:G.length≤300:=by rw [E];exact Nt (gix_len _ _) hL
   rw [← E];rw [← H] at r ⊢;clear E ae hx H;go_loopg [5,24] G.length (fun gk s5 ag W=>∃ m:Nat,m≤G.length∧gk=G.length - m∧ag=I (m:Int)∧JM w W (Az tg) L.length t q A (jl L (x,y,k) i e ++ jE i (a,c,d,f) (G.take m)) s5∧EB W T a c d f)
   case atStart=>exact ⟨0,γ,rfl,rfl,by simpa [jE] using C.out,r.out⟩
   case round =>
    clear h C r p0 p1 p2 zp ah;obtain ⟨m,hm,rfl,rfl,z,U⟩:=hrel;obtain ⟨vB,ac⟩:∃ u,u=u5:=⟨_,rfl⟩;subst ac;have h:=Hd z;have X:=Hd U;obtain ⟨d0,d1,d2,d3⟩:=U.cells;have zd:T<wr.heap.size:=U.lt;clear z U;by_cases hm1:m<G.length
    ·have im:(m:Int)<(G.length:Int):=γ;have ak:(0:Int)≤(m:Int):=γ;obtain ⟨gb,go,rfl,l⟩:=(B.out.kept h.out.2.1) m hm1;have am:=Bt l;obtain ⟨j,hj⟩:∃ j,j=G[m]:=⟨_,rfl⟩;rw [← hj] at l;have Z:=Hd hj;clear hj;by_cases hne:j=(i:Int)
     ·subst hne;go_wp2;go_roundg (G.length - (m+1))
      case measure=>omega
      case rel=>exact ⟨m+1,γ,rfl,σ,by rw [jE_no hm1 Z.out.symm];exact h.out,X.out⟩
     ·have ai:(jl L (x,y,k) i e ++ jE i (a,c,d,f) (G.take m)).length+1≤2000:=by
       have a1:=jl_len L (x,y,k) i e;have a2:=jE_len i (a,c,d,f) (G.take m);have a3:e*L.length≤3*300:=Nat.mul_le_mul he hL;rw [List.length_append];simp only [List.length_take] at a2;omega
      go_wp2_with (at_builtin;refine wpList_append_own _ rfl (.tmp 31) (.tmp 35) 183 rfl (w.heap.size+1) 165 i5 (.agg #[I 0,I 0,I 0,I 0,I 0]) 5 40 Tryz.underlying183 Q.out.1 Q.out.2.1 Q.out.2.2.1 Q.out.2.2.2 rfl ψ vB (jl L (x,y,k) i e ++ jE i (a,c,d,f) (G.take m)).length (flatJ (jl L (x,y,k) i e ++ jE i (a,c,d,f) (G.take m))) rfl ?own ⟨wr.heap.size,0,none⟩ 1 1 [I a,I c,I d,I f,I j] rfl rfl ?c1 ?c2 ?b1 ?b2 ?b3 ?grow)
      case own=>exact Qj h.out.1 β1
      case c1=>exact Um _ _ _ _ _ _ _
      case c2 =>
       intro u hu;simp at hu;rcases hu with rfl | rfl | rfl | rfl | rfl <;> rfl
      case b1 =>
       unfold maxLen;omega
      case b2=>omega
      case b3 =>
       have:=h.out.2.2.2;simp;omega
      case grow =>
       intro v' w3 o g M;rw [← List.length_append] at o
       have a6:Hid (JM w w3 (Az tg) L.length t q A (jl L (x,y,k) i e ++ jE i (a,c,d,f) (G.take (m+1))) v'):=by
        have h1:=h.out.more (e:=(a,c,d,f)) (j:=j) β1 g o;rw [jE_yes hm1 (by rw [← Z.out];exact hne),← Z.out,← List.append_assoc];exact h1
       have Y:Hid (EB w3 T a c d f):=by
        have h1:EB w3 T a c d f:=(X.out.kept β1).grown g (X.out.not_row h.out.1);exact h1
       clear o g M;go_wp2;go_roundg (G.length - (m+1))
       case measure=>omega
       case rel=>exact ⟨m+1,γ,rfl,σ,a6.out,Y.out⟩
    ·have im:¬ (m:Int)<(G.length:Int):=γ;obtain rfl:m=G.length:=γ;go_wp2;go_roundg (3 - (e+1))
     case measure=>omega
     case rel =>
      refine ⟨e+1,γ,rfl,σ, ?_⟩;have h1:=h.out;rw [List.take_length,HG.out] at h1;rw [Kx,R.out];exact h1
  ·have ie:¬ (e:Int)<3:=γ;obtain rfl:e=3:=γ;go_wp2;go_ret;exact ⟨vA,rfl,h.out.1,h.out.2.1⟩
def rowN (R:List Nat):List Value:=R.map fun (i:Nat)=>I (i:Int)
def SpM (wE wx w:World) (g:Nat) (ad:Option Addr) (cc ra rk:Nat) (L:List T3) (part:Nat→Int) (num:Int) (R:List Nat) (v:Value):Prop :=
 ZRow wx g L.length (lab part num R)∧wx.ownsRow (w.heap.size+1) 3 1 v R.length (rowN R)∧Bl wE wx∧(At wx w.heap.size 0 (.slice ad L.length cc)∧At wx w.heap.size 1 (.map (some ra))∧At wx w.heap.size 2 (.map (some rk)))∧w.heap.size+1≤wx.heap.size
theorem SpM.kept {j k:World} {e:Nat} {d:Option Addr} {a:Nat→Int} {c:Int} {R:List Nat} (h:SpM j k w g d e f i L a c R v) (b:Bl k w'):SpM j w' w g d e f i L a c R v :=
 ⟨h.1.kept b,Qj h.2.1 b,Qc h.2.2.1 b,⟨Qa b h.2.2.2.1.1,Qa b h.2.2.2.1.2.1,Qa b h.2.2.2.1.2.2⟩,Nt h.2.2.2.2 b.size⟩
theorem rowN_at (R:List Nat) (i:Nat) (h:i<R.length):(rowN R)[i]?=some (I ((R[i]:Nat):Int)):=by simp [rowN,h]
theorem SpM.slice {n e:World} {l:Nat} {f:Option Addr} {c:Nat→Int} {d:Int} {R:List Nat} (h:SpM n e w g f j l m L c d R v) (o:0<R.length):∃ b a,v=.slice (some ⟨b,0,none⟩) R.length a∧w.heap.size+1≤b∧∀ i (hi:i<R.length),e.cell? ⟨b,i,none⟩=some (I ((R[i]:Nat):Int)):=by
 rcases h.2.1.2 with ⟨_,h0⟩ | ⟨b,a,k,hv,h2,h3⟩
 ·omega
 ·refine ⟨b,a,hv,h2,fun i hi=>?_⟩;subst hv;have:=h.2.1.cellAt i γ;(try simp only [I]);rw [this,rowN_at R i hi]
theorem SpM.more {m f B l:World} {x z A:Nat} {t:Option Addr} {c:Nat→Int} {a:Int} {R:List Nat} {v':Value} (h:SpM m f w g t x z A L c a R v) (C:g<w.heap.size) (p:m.heap.size≤g) (D:j<L.length)
  (i:Below (f.setCell ⟨g,j,none⟩ (I a)).heap.size (f.setCell ⟨g,j,none⟩ (I a)) B) (hg:B.grownBy l v.ownBlock) (d:l.ownsRow (w.heap.size+1) 3 1 v' (R.length+1) (rowN R ++ [I (j:Int)])) :
  SpM m l w g t x z A L c a (R ++ [j]) v':=by
 obtain ⟨h1,h2,h3,⟨y,F,G⟩,h5⟩:=h;have b:∀ k,v.ownBlock=some k→w.heap.size+1≤k:=fun k s=>(h2.lt k s).1
 have r:some g≠v.ownBlock:=fun e=>by
  have:=b g e.symm;omega
 have n:some w.heap.size≠v.ownBlock:=fun e=>by
  have:=b _ e.symm;omega
 have z1:=((h1.set a D).kept i).grown hg r
 have q:∀ {o:Nat} {u:Value},At f w.heap.size o u→At l w.heap.size o u:=fun {o u} E=>by
  refine hg.cell (Qa i ?_) n;rw [Co _ _ _ _ π];exact E
 refine ⟨?_, ?_, ?_,⟨q y,q F,q G⟩, ?_⟩
 ·rw [lab_found];exact z1
 ·rw [List.length_append,List.length_singleton];have:rowN (R ++ [j])=rowN R ++ [I (j:Int)]:=by simp [rowN]
  rw [this];exact d
 ·have k1:Bl m (f.setCell ⟨g,j,none⟩ (I a)):=h3.setCell p _;have k2:=k1.trans (i.mono k1.size);have:=h3.size
  exact k2.grown hg k2.size (fun k s=>by
   have:=b k s;have:=bk y;omega)
 ·have H:=i.size;have J:=hg.size;rw [World.size_setCell] at H;omega
theorem owns_one (w:World) (base:Nat) (v:Value) (h:base≤w.heap.size):(w.alloc (.cells #[v] 3)).ownsRow base 3 1 (.slice (Az w.heap.size) 1 1) 1 [v] :=
 ⟨ξ,.inr ⟨w.heap.size,1,#[v],rfl,h,heap_alloc_new w _,Nr _,Ξ,ξ,ξ⟩⟩
theorem DoneT.joints {c:E4→Bool} {a:Nat→Int} {R:List Nat} (hi:i∈R) (h:∀ m (b:m<(jl L t i 3).length),∀ j:Nat,(jl L t i 3)[m].2=(j:Int)→c (jl L t i 3)[m].1=true→j∈R∨0≤a j):DoneT c L a R t 3:=fun k g d j f l=>by
 by_cases e:j=i
 ·subst e;exact Or.inl hi
 ·have b:(edg t k,(j:Int))∈jl L t i 3:=Yz.2 ⟨k,g,rfl,j,f,rfl,e,l⟩;obtain ⟨m,b,e1⟩:=List.getElem_of_mem b;exact h m b j (by rw [e1]) (by rw [e1];exact d)
theorem spread_all (V w:World) (g X U rk f:Nat) (Q:Option Addr) (L:List T3) (a:Nat→Int) (d:Int) (T:E4→Bool) (hs:Steps V) (b8:PA V Q U L) (hB:Bl V w) (ba:V.heap.size≤g) (hZ:ZRow w g L.length a) (hf:f<L.length) (hp:a f<0) (bi:0≤d∧d≤1000) (hL:L.length≤300) (bh:L.Nodup) (b9:∀ t∈L,(0≤t.1∧t.1≤8)∧(0≤t.2.1∧t.2.1≤8)∧(0≤t.2.2∧t.2.2≤3))
  (b7:∀ (nr G H K M qt:Int) (c:World),Bl V c→Rt 250 #[I nr,.agg #[I G,I H,I K,I M,I qt]] c (.bool (T (G,H,K,M)))) :
  Cl 168 #[.agg #[.slice Q L.length X,.map (some U),.map (some rk)],.slice (Az g) L.length L.length,I (f:Int),I d,.func (.func 250) #[] #[]] w fun e w'=>e=.returned (.tuple #[])∧∃ R,Sp T L a f R∧ZRow w' g L.length (lab a d R)∧(∀ i∈R,∀ h:i<L.length,DoneT T L a R L[i] 3)∧Bl V w':=by
 have ar:=Hd b7;have bn:Hid (∀ (c:World) (i:Nat) (hi:i<L.length),Bl V c→Cl 99 #[.agg #[.slice Q L.length X,.map (some U),.map (some rk)],I (i:Int)] c fun e w'=>∃ v,e=.returned v∧w'.ownsRow (c.heap.size+1) 165 5 v (jl L L[i] i 3).length (flatJ (jl L L[i] i 3))∧Bl c w'):=fun c i hi s=>Uv c X U rk i Q L L[i].1 L[i].2.1 L[i].2.2 (hs.kept s) (b8.kept s) hi rfl hL (b9 _ (Lm hi));have bp:=Hd bh;obtain ⟨z0,zf⟩:=hZ f hf;have bu:=Bt z0;have HZ:=H2 hZ hB
 have az:Hid (Sp T L a f [f]):=⟨ξ,ξ,fun i hi=>by
  simp at hi;subst hi;exact ⟨hf,hp,hf,.here (Lm hf)⟩⟩
 obtain ⟨i3,bb,ah,ai,aj⟩:=info_parts inf3;have HI:=H4 bb ah ai aj;obtain ⟨n0,n1⟩:=bi;have d6:(f:Int)<(L.length:Int):=γ;have cz:(0:Int)≤(f:Int):=γ;clear hs b8 b9 bh hZ hB bb ah ai aj hp b7;go_enter Tryz.func168,Tryz.ntmps168;go_wp2;go_loopg [10,11] L.length (fun gk ao cf wx=>∃ (n:Nat) (R:List Nat),n≤R.length∧L.length - n≤gk∧cf=I (n:Int)∧Sp T L a f R∧(∀ m (hm:m<R.length),m<n→∀ h:R[m]<L.length,DoneT T L a R L[R[m]] 3)∧SpM V wx w g Q X U rk L a d R ao)
 case atStart =>
  refine ⟨0,[f],ξ,γ,rfl,az.out,fun m _ h=>by omega, ?_⟩;refine ⟨?_, ?_, ?_,⟨?_, ?_, ?_⟩, ?_⟩
  ·have hz:=(HZ.out.1.set d hf).kept (Qb (o:=.cells #[I (f:Int)] 3) (Qb (o:=.cells #[.slice Q L.length X,.map (some U),.map (some rk)] 98) (Qe _)))
   have e:lab a d [f]=fun j=>if j=f then d else a j:=by
    funext j
    simp [lab]
   rw [e];exact hz
  ·have:=owns_one ((w.setCell ⟨g,f,none⟩ (I d)).alloc (.cells #[.slice Q L.length X,.map (some U),.map (some rk)] 98)) (w.heap.size+1) (I (f:Int)) ξ;simpa [rowN] using this
  ·have bs:Bl V (w.setCell ⟨g,f,none⟩ (I d)):=HZ.out.2.setCell (p:=⟨g,f,none⟩) ba _;exact Qb (Qb bs)
  ·simp [go_sem]
  ·simp [go_sem]
  ·simp [go_sem]
  ·simp
 case round =>
  clear az HZ z0 zf;obtain ⟨n,R,hn,cu,rfl,B,hD,hM⟩:=hrel;obtain ⟨vA,cb⟩:∃ u,u=u10:=⟨_,rfl⟩;subst cb;have br:0<R.length:=List.length_pos_of_mem B.1;obtain ⟨rb,rc,rfl,ca,an⟩:=hM.slice br;have ct:=B.len;have a8:Hid (Sp T L a f R∧∀ m (hm:m<R.length),m<n→∀ h:R[m]<L.length,DoneT T L a R L[R[m]] 3):=⟨B,hD⟩;have N:=Hd hM;obtain ⟨p0,p1,p2⟩:=hM.2.2.2.1;have zp:=Bt p0;by_cases h1:n<R.length
  ·have ac:=an n h1;have zr:=Bt ac;have ak:R[n]∈R:=Lm h1;obtain ⟨hi,_⟩:=B.2.2 R[n] ak;obtain ⟨i,ab⟩:∃ i,i=R[n]:=⟨_,rfl⟩;rw [← ab] at ac hi;have au:=Hd ab;have av:Hid (i∈R):=by rw [ab];exact ak
   clear B hD hM an ab ak;have i1:(n:Int)<(R.length:Int):=γ;have i0:(0:Int)≤(n:Int):=γ;obtain ⟨J,hJ⟩:∃ J,J=jl L L[i] i 3:=⟨_,rfl⟩
   have cp:J.length≤900:=by
    have:=jl_len L L[i] i 3;rw [hJ];omega
   have CJ:Hid (∀ c:World,Bl wr c→Cl 99 #[.agg #[.slice Q L.length X,.map (some U),.map (some rk)],I (i:Int)] c fun e w'=>∃ v,e=.returned v∧w'.ownsRow (c.heap.size+1) 165 5 v J.length (flatJ J)∧Bl c w'):=fun c s=>by
    rw [hJ];exact bn.out c i hi (Qc N.out.2.2.1 s)
   have HJ:=Hd hJ;clear hJ;go_wp2;go_cut [31,32,33] (fun cg ch ap wx=>∃ ja jc,cg=.slice ja J.length jc∧ch=I (J.length:Int)∧ap=I 0∧JW wx (w.heap.size+1) ja J∧Bl wr wx)
   case first =>
    go_region_held3 (fun w'=>At w' w.heap.size 0 (.slice Q L.length X)∧At w' w.heap.size 1 (.map (some U))∧At w' w.heap.size 2 (.map (some rk))∧At w' rb n (I (i:Int)))
     ((refine ⟨?_, ?_, ?_, ?_⟩ <;> (first | (with_reducible (repeat (first | assumption | refine Qk ?_ | refine Qq ?_));done) | (simp [go_sem];done))))
     ((go_at_call 99;refine (CJ.out _ φ).mono ?_;rintro e w8 ⟨v8,rfl,z,hb⟩;obtain ⟨ja,jc,rfl,E⟩:=own_jw z;have P:Bl wr w8:=Qc φ hb;have HQ:Hid (JW w8 wr.heap.size ja J∧Bl wr w8):=⟨E.mono ξ,P⟩;have cj:=Qa P p0;have cl:=Qa P p1;have cm:=Qa P p2;have cn:=Qa P ac;clear z E hb P))
    all_goals
     go_wp2;go_meet
     case rel=>exact ⟨_,_,rfl,rfl,rfl,(HQ.out.1.mono γ).kept φ,by with_reducible repeat (first | exact HQ.out.2 | refine Qg ?_)⟩
   case rest =>
    obtain ⟨ja,jc,rfl,rfl,rfl,E,b6⟩:=hcut;have ax:=Hd E;have b5:Hid (Bl wc wc):=Qe _;have a7:=Hd (N.out.kept b6);obtain ⟨WC,aa⟩:∃ W,W=wc:=⟨_,rfl⟩;rw [← aa] at ax a7 b5;clear E b6 p0 p1 p2 zp ca zr ac CJ N;have ae:Hid (Bl WC wc∧w.heap.size+1≤WC.heap.size):=⟨by rw [aa];exact Qe _,a7.out.2.2.2.2⟩;have ay:Hid (SpM V wc w g Q X U rk L a d R (.slice (Az rb) R.length rc)):=by rw [← aa];exact a7.out
    clear b5 a7 aa;go_wp2;go_loopg [10,33] J.length (fun gk ao ap wx=>∃ (m:Nat) (Y:List Nat),m≤J.length∧gk=J.length - m∧ap=I (m:Int)∧Sp T L a f (R ++ Y)∧(∀ F (h:F<J.length),F<m→∀ j:Nat,J[F].2=(j:Int)→T J[F].1=true→j∈R ++ Y∨0≤a j)∧SpM V wx w g Q X U rk L a d (R ++ Y) ao∧JW wx (w.heap.size+1) ja J)
    case atStart=>exact ⟨0,[],γ,rfl,rfl,by simpa using a8.out.1,fun F _ h=>by omega,by simpa using ay.out,ax.out.kept ae.out.1⟩
    case round =>
     clear ay ae;obtain ⟨m,Y,hm,rfl,rfl,B,hE,hM,E⟩:=hrel;obtain ⟨vC,cd⟩:∃ u,u=u10:=⟨_,rfl⟩;subst cd;have A:=H2 B hE;have N:=Hd hM;have HR:=Hd E;clear B hE hM E;by_cases hm1:m<J.length
     ·have im:(m:Int)<(J.length:Int):=γ;have d8:(0:Int)≤(m:Int):=γ;obtain ⟨jb,rfl,c0,c1,c2,c3,c4⟩:=HR.out.1 m hm1;have dd:=Bt c0;obtain ⟨q,hq⟩:∃ q,q=J[m]:=⟨_,rfl⟩;obtain ⟨⟨G,H,K,M⟩,qj⟩:=q;rw [← hq] at c0 c1 c2 c3 c4;dsimp only at c0 c1 c2 c3 c4;have HQ:=Hd hq;have ag:((G,H,K,M),qj)∈jl L L[i] i 3:=by rw [← HJ.out,hq];exact Lm hm1
      obtain ⟨k,hk,bf,j,hj,rfl,cw,be⟩:=Yz.1 ag;have aw:=H2 bf be;obtain ⟨lc,lf⟩:=N.out.1 j hj;have zg:=Bt lc;have db:g<wr.heap.size+1:=γ;have ij:(j:Int)<(L.length:Int):=γ;have d7:(0:Int)≤(j:Int):=γ;clear ag bf be hq;by_cases hlt:lab a d (R ++ Y) j<0
      ·have bc:j ∉ R ++ Y:=fun hh=>by
        simp only [lab,if_pos hh] at hlt;omega
       obtain ⟨sb,sc,rfl,cy,bk⟩:=N.out.slice (by rw [List.length_append];omega);have bw:n<(R ++ Y).length:=by rw [List.length_append];omega
       have sn:=bk n bw;rw [show (R ++ Y)[n]=i by rw [List.getElem_append_left h1];exact au.out.symm] at sn;have df:=Bt sn;have d9:(n:Int)<((R ++ Y).length:Int):=γ;clear bk;have bz:a j<0:=by simpa [lab,bc] using hlt
       obtain ⟨lv,O⟩:∃ lv,lv=lab a d (R ++ Y) j:=⟨_,rfl⟩;rw [← O] at lc hlt;have co:=Hd O;clear O
       cases hcr:T (G,H,K,M)
       ·have CC:Hid (∀ c:World,Bl wr c→Rt 250 #[I (i:Int),.agg #[I G,I H,I K,I M,I (j:Int)]] c (.bool false)):=fun c s=>hcr ▸ ar.out (i:Int) G H K M (j:Int) c (Qc N.out.2.2.1 s);go_wp2;refine Qi (fun r hW1=>?_);have b:Bl wr r:=by rw [hW1];exact Qb (Qe _)
        have d0:At r wr.heap.size 0 (I G):=γ2;have d1:At r wr.heap.size 1 (I H):=γ2;have d2:At r wr.heap.size 2 (I K):=γ2;have d3:At r wr.heap.size 3 (I M):=γ2;have d4:At r wr.heap.size 4 (I (j:Int)):=γ2;have a6:=Qa b lc;have zn:=Bt d0;have bm:=Bt a6;have aq:=Qa b sn;have ci:=Bt aq;have D:=H2 (N.out.kept b) (HR.out.kept b);have bj:decide (lv<0)=true:=decide_eq_true hlt;have C1:Hid (∀ c:World,Bl r c→Rt 250 #[I (i:Int),.agg #[I G,I H,I K,I M,I (j:Int)]] c (.bool false)):=fun c s=>CC.out c (Qc b s);clear hW1 b c0 c1 c2 c3 c4 lc lf sn;obtain ⟨kc,kn⟩:=kcn r;refine wk ?_;repeat (go_big_quiet_step ((go_at_call 250;exact Qf (C1.out _ (Kin.h _)))))
        refine kq1 (fun w5 hq=>?_);clear kc kn;have l:=H2 (D.out.1.kept hq) (D.out.2.kept hq);go_wp2;go_roundg (J.length - (m+1))
        case measure=>omega
        case rel =>
         refine ⟨m+1,Y,γ,rfl,σ,A.out.1,fun F h' Z j' y x=>?_,l.out.1,l.out.2⟩;by_cases em:F=m
         ·subst em;rw [← HQ.out] at x;simp only at x;rw [hcr] at x;exact absurd x ξ
         ·exact A.out.2 F h' γ j' y x
       ·have CC:Hid (∀ c:World,Bl wr c→Rt 250 #[I (i:Int),.agg #[I G,I H,I K,I M,I (j:Int)]] c (.bool true)):=fun c s=>hcr ▸ ar.out (i:Int) G H K M (j:Int) c (Qc N.out.2.2.1 s)
        have HF:Hid (Sp T L a f (R ++ (Y ++ [j]))):=by
         have:=A.out.1.found bp.out (i:=i) (j:=j) (List.mem_append_left _ av.out) hj bc bz (e:=(G,H,K,M)) hcr (fun cv=>by
          rw [aw.out.1];exact Jc _ _) aw.out.2
         rwa [List.append_assoc] at this
        have af:(R ++ Y).length+1≤1000:=by
         have:=A.out.1.len;omega
        go_wp2;refine Qi (fun r hW1=>?_);have b:Bl wr r:=by rw [hW1];exact Qb (Qe _)
        have d0:At r wr.heap.size 0 (I G):=γ2;have d1:At r wr.heap.size 1 (I H):=γ2;have d2:At r wr.heap.size 2 (I K):=γ2;have d3:At r wr.heap.size 3 (I M):=γ2;have d4:At r wr.heap.size 4 (I (j:Int)):=γ2;have a6:=Qa b lc;have zn:=Bt d0;have bm:=Bt a6;have aq:=Qa b sn;have ci:=Bt aq;have D:=H2 (N.out.kept b) (HR.out.kept b);have bj:decide (lv<0)=true:=decide_eq_true hlt;have C1:Hid (∀ c:World,Bl r c→Rt 250 #[I (i:Int),.agg #[I G,I H,I K,I M,I (j:Int)]] c (.bool true)):=fun c s=>CC.out c (Qc b s);clear hW1 b c0 c1 c2 c3 c4 lc lf sn;obtain ⟨kc,kn⟩:=kcn r;refine wk ?_;repeat (go_big_quiet_step ((go_at_call 250;exact Qf (C1.out _ (Kin.h _)))))
        refine kq1 (fun w5 hq=>?_);clear kc kn;have l:=H2 (D.out.1.kept hq) (D.out.2.kept hq);have d5:=Qa hq d4;have de:=Bt d5;obtain ⟨ce,da⟩:=l.out.1.1 j hj;have dc:=Bt ce;clear hq;go_wp2_with (at_builtin;refine wpList_append_own _ rfl (.tmp 57) (.tmp 60) 22 rfl (w.heap.size+1) 3 i3 (I 0) 1 8 Tryz.underlying22 HI.out.1 HI.out.2.1 HI.out.2.2.1 HI.out.2.2.2 rfl ψ (.slice (Az sb) (R ++ Y).length sc) (R ++ Y).length (rowN (R ++ Y)) rfl ?own ⟨w5.heap.size,0,none⟩ 1 1 [I (j:Int)] rfl rfl ?c1 ?c2 ?b1 ?b2 ?b3 ?grow)
        case own =>
         try rw [← List.length_append]
         exact (l.out.1.2.1.kept (Ql _ g j _) (by
          cases hu:(Value.slice (Az sb) (R ++ Y).length sc).ownBlock with
          | none=>exact Or.inl rfl
          | some q =>
           refine Or.inr (fun e1=>?_);have:=(l.out.1.2.1.lt q hu).1;simp at e1;omega)).alloc _
        case c1=>exact Yd _ δ
        case c2=>exact Xx _
        case b1 =>
         unfold maxLen;first | omega | (rw [List.length_append] at af;omega)
        case b2=>first | omega | (rw [List.length_append] at af;omega)
        case b3 =>
         have:=l.out.1.2.2.2.2;simp;omega
        case grow =>
         intro v' w3 z C _;rw [← List.length_append] at z;try rw [← List.length_append] at C
         have bo:Hid (SpM V w3 w g Q X U rk L a d (R ++ (Y ++ [j])) v'):=by
          have:=l.out.1.more bu ba hj β1 C z;rwa [List.append_assoc] at this
         have bq:Hid (JW w3 (w.heap.size+1) (Az jb) J):=by
          have h0:=l.out.2.grown (Ql w5 g j (I d)) (fun g' bt e1=>by
           have h2:=(l.out.2.2 g' e1).1;simp at bt;omega)
          have h1:JW w3 (w.heap.size+1) (Az jb) J:=(h0.kept β1).grown C (l.out.2.not_row l.out.1.2.1);exact h1
         clear z C;go_wp2;go_roundg (J.length - (m+1))
         case measure=>omega
         case rel =>
          have a2:∀ q∈R ++ Y,q∈R ++ (Y ++ [j]):=fun q hq=>by
           rw [← List.append_assoc];exact List.mem_append_left _ hq
          refine ⟨m+1,Y ++ [j],γ,rfl,σ,HF.out,fun F h' Z j' y x=>?_,bo.out,bq.out⟩;by_cases em:F=m
          ·subst em;rw [← HQ.out] at y;simp only at y;have:j'=j:=γ;subst this;exact Or.inl ξ
          ·exact (A.out.2 F h' γ j' y x).imp (a2 j') id
      ·have am:Hid (j∈R ++ Y∨0≤a j):=by
        by_cases hh:j∈R ++ Y
        ·exact Or.inl hh
        ·exact Or.inr (by simp only [lab,if_neg hh] at hlt;omega)
       obtain ⟨lv,O⟩:∃ lv,lv=lab a d (R ++ Y) j:=⟨_,rfl⟩;rw [← O] at lc hlt;clear O;go_wp2;refine Qi (fun r hW1=>?_);have b:Bl wr r:=by rw [hW1];exact Qb (Qe _)
       have d0:At r wr.heap.size 0 (I G):=γ2;have d1:At r wr.heap.size 1 (I H):=γ2;have d2:At r wr.heap.size 2 (I K):=γ2;have d3:At r wr.heap.size 3 (I M):=γ2;have d4:At r wr.heap.size 4 (I (j:Int)):=γ2;have a6:=Qa b lc;have zn:=Bt d0;have bm:=Bt a6;have D:=H2 (N.out.kept b) (HR.out.kept b);have bj:decide (lv<0)=false:=decide_eq_false γ;clear hW1 b c0 c1 c2 c3 c4 lc lf;obtain ⟨kc,kn⟩:=kcn r;refine wk ?_;repeat (go_big_quiet_step (fail))
       refine kq1 (fun w5 hq=>?_);clear kc kn;have l:=H2 (D.out.1.kept hq) (D.out.2.kept hq);go_wp2;go_roundg (J.length - (m+1))
       case measure=>omega
       case rel =>
        refine ⟨m+1,Y,γ,rfl,σ,A.out.1,fun F h' Z j' y x=>?_,l.out.1,l.out.2⟩;by_cases em:F=m
        ·subst em;rw [← HQ.out] at y;simp only at y;have:j'=j:=γ;subst this;exact am.out
        ·exact A.out.2 F h' γ j' y x
     ·have im:¬ (m:Int)<(J.length:Int):=γ;obtain rfl:m=J.length:=γ;go_wp2;go_roundg (L.length - (n+1))
      case measure=>omega
      case rel =>
       have a2:∀ q∈R,q∈R ++ Y:=fun q hq=>List.mem_append_left _ hq;refine ⟨n+1,R ++ Y,by rw [List.length_append];omega,γ,σ,A.out.1,fun m hm cx bv=>?_,N.out⟩;by_cases em:m=n
       ·subst em;have e1:(R ++ Y)[m]=i:=by rw [List.getElem_append_left h1];exact au.out.symm
        simp only [e1];refine DoneT.joints (i:=i) (List.mem_append_left _ av.out) (fun F Z j' y x=>?_);have h8:=A.out.2;rw [HJ.out] at h8;exact h8 F Z Z j' y x
       ·have bg:m<R.length:=γ;have e1:(R ++ Y)[m]=R[m]:=List.getElem_append_left bg;have h7:=(a8.out.2 m bg γ (by rw [← e1];exact bv)).mono a2;simp only [e1];exact h7
  ·have i1:¬ (n:Int)<(R.length:Int):=γ;clear hM B hD an;go_wp2;go_end0
   refine ⟨rfl,R,a8.out.1,N.out.1,fun i hi h=>?_,N.out.2.2.1⟩;obtain ⟨m,hm,he⟩:=List.getElem_of_mem hi;subst he;exact a8.out.2 m hm γ h
def PartsOk (cr:E4→Bool) (L:List T3) (part:Nat→Int):Prop :=
 (∀ a,a<L.length→0≤part a)∧(∀ a b (ha:a<L.length) (hb:b<L.length),AdjC cr L[a] L[b]→part b=part a) ∧
 (∀ a b (ha:a<L.length) (hb:b<L.length),part a=part b→ReachC cr L L[a] L[b])∧(∀ a,a<L.length→∀ c,0≤c→c<part a→∃ b,b<a∧part b=c)
def PInv (cr:E4→Bool) (L:List T3) (part:Nat→Int) (i c:Nat):Prop :=
 (∀ a,a<L.length→a<i→0≤part a)∧(∀ a b (ha:a<L.length) (hb:b<L.length),AdjC cr L[a] L[b]→0≤part a→part b=part a) ∧
 (∀ a b (ha:a<L.length) (hb:b<L.length),0≤part a→part a=part b→ReachC cr L L[a] L[b])∧(∀ a,a<L.length→part a<c)∧(∀ a,a<L.length→∀ d,0≤d→d<part a→∃ b,b<a∧part b=d)∧(∀ d:Int,0≤d→d<c→∃ b,b<i∧part b=d)
theorem pinv_start (c:E4→Bool) (L:List T3):PInv c L (fun _=>-1) 0 0 :=
 ⟨fun a _ h=>by omega,fun a b _ _ _ h=>by simp at h,fun a b _ _ h=>by simp at h,fun a _=>by simp,fun a _ d h1 h2=>by simp at h2;omega,fun d h1 h2=>by simp at h2;omega⟩
theorem PInv.skip {g:E4→Bool} {f:Nat→Int} (h:PInv g L f i c) (hp:0≤f i):PInv g L f (i+1) c:=by
 obtain ⟨h1,h2,h3,h4,h5,h6⟩:=h;refine ⟨fun a j hi=>?_,h2,h3,h4,h5,fun d l k=>?_⟩
 ·by_cases e:a=i
  ·rw [e];exact hp
  ·exact h1 a j γ
 ·obtain ⟨b,n,m⟩:=h6 d l k;exact ⟨b,γ,m⟩
theorem PInv.done {j:E4→Bool} {f:Nat→Int} (h:PInv j L f L.length c):PartsOk j L f:=by
 obtain ⟨h1,h2,h3,h4,h5,h6⟩:=h;exact ⟨fun a d=>h1 a d d,fun a b d i g=>h2 a b d i g (h1 a d d),fun a b d i e=>h3 a b d i (h1 a d d) e,h5⟩
theorem PInv.next {y:E4→Bool} {j:Nat→Int} {R:List Nat} (h:PInv y L j i c) (_hk:∀ t∈L,Kd t) (_hnd:L.Nodup) (_hi:i<L.length) (_hp:j i<0) (z:Sp y L j i R) (hD:∀ a∈R,∀ l:a<L.length,DoneT y L j R L[a] 3):PInv y L (lab j (c:Int) R) (i+1) (c+1):=by
 obtain ⟨h1,h2,h3,h4,h5,h6⟩:=h;have m:∀ a,a∈R→lab j (c:Int) R a=c:=fun a l=>by simp [lab,l]
 have g:∀ a,a ∉ R→lab j (c:Int) R a=j a:=fun a l=>by simp [lab,l]
 have s:∀ a,a∈R→∃ l:a<L.length,j a<0∧i≤a:=fun a l=>by
  obtain ⟨G,C,_⟩:=z.2.2 a l;refine ⟨G,C, ?_⟩;rcases Nat.lt_or_ge a i with q | q
  ·have:=h1 a G q;omega
  ·exact q
 have A:∀ a b (l:a<L.length) (o:b<L.length),AdjC y L[a] L[b]→a∈R→b∈R:=fun a b l o p f=>by
  obtain ⟨F,e,e1,e2,e3⟩:=p;obtain ⟨k,E,B⟩:=Vw e1;have v:=hD a f l k E (by rw [B];exact e3) b o (by rw [B];exact e2);rcases v with v | v
  ·exact v
  ·have G:=h2 b a o l (AdjC.symm ⟨F,e,e1,e2,e3⟩) v;obtain ⟨_,C,_⟩:=s a f;omega
 refine ⟨fun a l H=>?_,fun a b l o p u=>?_,fun a b l o u D=>?_,fun a l=>?_,fun a l d v x=>?_,fun d v J=>?_⟩
 ·by_cases f:a∈R
  ·rw [m a f];omega
  ·rw [g a f];by_cases e:a=i
   ·exact absurd (e ▸ z.1) f
   ·exact h1 a l γ
 ·by_cases f:a∈R
  ·rw [m a f,m b (A a b l o p f)]
  ·rw [g a f] at u ⊢;have n:b ∉ R:=fun q=>f (A b a o l p.symm q);rw [g b n];exact h2 a b l o p u
 ·by_cases f:a∈R
  ·by_cases n:b∈R
   ·obtain ⟨_,_,_,r1⟩:=z.2.2 a f;obtain ⟨_,_,_,r2⟩:=z.2.2 b n;exact r1.symm.trans r2
   ·rw [m a f,g b n] at D;have:=h4 b o;omega
  ·by_cases n:b∈R
   ·rw [g a f,m b n] at D;have:=h4 a l;omega
   ·rw [g a f,g b n] at D;rw [g a f] at u;exact h3 a b l o u D
 ·by_cases f:a∈R
  ·rw [m a f];omega
  ·rw [g a f];have:=h4 a l;omega
 ·by_cases f:a∈R
  ·rw [m a f] at x;obtain ⟨b,o,r⟩:=h6 d v x;obtain ⟨_,_,K⟩:=s a f;refine ⟨b,γ, ?_⟩;rw [g b (fun q=>by obtain ⟨_,C,_⟩:=s b q;omega)];exact r
  ·rw [g a f] at x;obtain ⟨b,o,r⟩:=h5 a l d v x;refine ⟨b,o, ?_⟩;rw [g b (fun q=>by obtain ⟨_,C,_⟩:=s b q;omega)];exact r
 ·by_cases e:d=c
  ·exact ⟨i,γ,by rw [m i z.1,e]⟩
  ·obtain ⟨b,o,r⟩:=h6 d v γ;refine ⟨b,γ, ?_⟩;rw [g b (fun q=>by obtain ⟨_,C,_⟩:=s b q;omega)];exact r
theorem rp_zrow {z:Int} (h:w.heap[g]?=some (.cells (rp z n n).toArray 3 (0,0))):ZRow w g n (fun _=>z):=fun i hi=>by
 have e:rp z n n=List.replicate n (I z):=by simp [rp]
 rw [e] at h;refine ⟨?_, ?_⟩
 ·simp [World.cell?,h,hi]
 ·simp [World.frozen?,h]
theorem joined1_any (n a b c d t:Int) (w:World):Rt 250 #[I n,.agg #[I a,I b,I c,I d,I t]] w (.bool true):=by
 go_enter Tryz.func250,Tryz.ntmps250;go_wp2;go_ret;exact ⟨rfl,Qb (Qe _)⟩
theorem parts_all (w:World) (j k m:Nat) (b:Option Addr) (L:List T3) (v:E4→Bool) (hs:Steps w) (F:PA w b k L) (hL:L.length≤300) (z:L.Nodup) (x:∀ t∈L,(0≤t.1∧t.1≤8)∧(0≤t.2.1∧t.2.1≤8)∧(0≤t.2.2∧t.2.2≤3))
  (E:∀ (X A B C M Y:Int) (K:World),Bl w K→Rt 250 #[I X,.agg #[I A,I B,I C,I M,I Y]] K (.bool (v (A,B,C,M)))) :
  Cl 84 #[.agg #[.slice b L.length j,.map (some k),.map (some m)],.func (.func 250) #[] #[]] w fun e w'=>∃ g a,e=.returned (.slice (Az g) L.length L.length)∧ZRow w' g L.length a∧PartsOk v L a∧w.heap.size≤g∧Bl w w':=by
 have q:Bl w ((w.alloc (.cells #[.slice b L.length j,.map (some k),.map (some m)] 98)).alloc (.cells #[I (-1)] 3)):=Qb β1
 have D:Hid (∀ (g f:Nat) (a:Nat→Int) (l:Int) (s:World),Below ((w.alloc (.cells #[.slice b L.length j,.map (some k),.map (some m)] 98)).alloc (.cells #[I (-1)] 3)).heap.size ((w.alloc (.cells #[.slice b L.length j,.map (some k),.map (some m)] 98)).alloc (.cells #[I (-1)] 3)) s→((w.alloc (.cells #[.slice b L.length j,.map (some k),.map (some m)] 98)).alloc (.cells #[I (-1)] 3)).heap.size≤g→ZRow s g L.length a→f<L.length→a f<0→(0≤l∧l≤1000)→Cl 168 #[.agg #[.slice b L.length j,.map (some k),.map (some m)],.slice (Az g) L.length L.length,I (f:Int),I l,.func (.func 250) #[] #[]] s fun e w'=>e=.returned (.tuple #[])∧∃ R,Sp v L a f R∧ZRow w' g L.length (lab a l R)∧(∀ i∈R,∀ h:i<L.length,DoneT v L a R L[i] 3)∧Below ((w.alloc (.cells #[.slice b L.length j,.map (some k),.map (some m)] 98)).alloc (.cells #[I (-1)] 3)).heap.size ((w.alloc (.cells #[.slice b L.length j,.map (some k),.map (some m)] 98)).alloc (.cells #[I (-1)] 3)) w'):=fun g f a l s h1 h2 h3 h4 h5 h6 =>
  spread_all ((w.alloc (.cells #[.slice b L.length j,.map (some k),.map (some m)] 98)).alloc (.cells #[I (-1)] 3)) s g j k m f b L a l v (hs.kept q) (F.kept q) h1 h2 h3 h4 h5 h6 hL z x (fun X A B C M Y K T=>E X A B C M Y K (Qc q T))
 have P:Hid (∀ t∈L,Kd t):=fun t ht=>(x t ht).2.2;have O:=Hd z;clear hs F q z x E;go_enter Tryz.func84,Tryz.ntmps84;go_wp2_with (go_at_call 167;refine (repeat_any (-1) (w.heap.size+1) L.length _ γ δ).mono ?_;rintro e w1 ⟨rfl,r,U⟩;have o:=H2 (rp_zrow r) U;have p0:At w1 w.heap.size 0 (.slice b L.length j):=Qa U δ;clear r U)
 obtain ⟨p,d⟩:∃ W,W=((w.alloc (.cells #[.slice b L.length j,.map (some k),.map (some m)] 98)).alloc (.cells #[I (-1)] 3)):=⟨_,rfl⟩;have A:At p w.heap.size 0 (.slice b L.length j):=by rw [d];simp [go_sem]
 have B:At p w.heap.size 1 (.map (some k)):=by rw [d];simp [go_sem]
 have C:At p w.heap.size 2 (.map (some m)):=by rw [d];simp [go_sem]
 have hz:p.heap.size=w.heap.size+2:=by rw [d];simp
 have N:Hid (Bl w p):=by rw [d];exact Qb β1
 rw [← d] at D o;have Q:=H3 A B C;obtain ⟨g,hg⟩:∃ g,g=w.heap.size+1+1:=⟨_,rfl⟩;rw [show p.heap.size=g by omega] at o;have HG:Hid (g=w.heap.size+1+1∧p.heap.size=g):=⟨hg,γ⟩;rw [← hg];clear d A B C hg hz;go_wp2;go_loopg [6,16] L.length (fun gk s6 Z s=>∃ (i:Nat) (c:Nat) (a:Nat→Int),i≤L.length∧gk=L.length - i∧Z=I (i:Int)∧s6=I (c:Int)∧c≤i∧PInv v L a i c∧ZRow s g L.length a∧Bl p s)
 case atStart=>exact ⟨0,0,_,γ,rfl,rfl,rfl,γ,pinv_start _ _,o.out.1,o.out.2⟩
 case round =>
  clear o p0;obtain ⟨i,c,a,hi,rfl,rfl,rfl,a2,hI,hZ,hB⟩:=hrel;have n:=H3 hI hZ hB;clear hI hZ hB;have p0:At wr w.heap.size 0 (.slice b L.length j):=Qa n.out.2.2 Q.out.1;have p1:At wr w.heap.size 1 (.map (some k)):=Qa n.out.2.2 Q.out.2.1;have p2:At wr w.heap.size 2 (.map (some m)):=Qa n.out.2.2 Q.out.2.2;by_cases h1:i<L.length
  ·have i1:(i:Int)<(L.length:Int):=γ;have i0:(0:Int)≤(i:Int):=γ;obtain ⟨zc,_⟩:=n.out.2.1 i h1;obtain ⟨V,y⟩:∃ V,V=a i:=⟨_,rfl⟩;rw [← y] at zc;have u:=Hd y;clear y;by_cases hneg:V<0
   ·go_wp2_with (go_at_call 168;refine (D.out g i a (c:Int) _ n.out.2.2 (by rw [HG.out.2];exact Nr _) n.out.2.1 h1 (by rw [← u.out];exact hneg) γ).mono ?_;rintro e w2 ⟨rfl,R,G,H,hD,J⟩;have HN:Hid (PInv v L (lab a (c:Int) R) (i+1) (c+1)∧ZRow w2 g L.length (lab a (c:Int) R)∧Bl p w2):=⟨n.out.1.next P.out O.out h1 (by rw [← u.out];exact hneg) G hD,H,J⟩;clear G H hD J)
    go_roundg (L.length - (i+1))
    case measure=>omega
    case rel=>exact ⟨i+1,c+1,_,γ,rfl,σ,σ,γ,HN.out⟩
   ·go_wp2;go_roundg (L.length - (i+1))
    case measure=>omega
    case rel=>exact ⟨i+1,c,a,γ,rfl,σ,rfl,γ,n.out.1.skip (by rw [← u.out];omega),n.out.2⟩
  ·have i1:¬ (i:Int)<(L.length:Int):=γ;obtain rfl:i=L.length:=γ;go_wp2;go_ret;exact ⟨g,rfl,a,n.out.2.1,n.out.1.done,by have:=HG.out.1;omega,Qc N.out n.out.2.2⟩
theorem max_zero:∀ (l:List Int) (a:Int),(∀ x∈l,0≤x)→0≤a→(l.foldl max a=0↔a=0∧∀ x∈l,x=0)
 | [],a,_,_=>by simp
 | x :: r,a,h,ha=>by
  have d:=h x ξ;have c:=max_zero r (max a x) (fun y b=>h y (by simp [b])) γ;rw [List.foldl_cons,c];constructor
  ·rintro ⟨h1,h2⟩;refine ⟨γ,fun y b=>?_⟩;rcases List.mem_cons.1 b with rfl | b
   ·omega
   ·exact h2 y b
  ·rintro ⟨h1,h2⟩;refine ⟨?_,fun y b=>h2 y (by simp [b])⟩;have:=h2 x ξ;omega
theorem maxOf_zero {l:List Int} (b:l≠[]) (h:∀ x∈l,0≤x):Lib.maxOf l=0↔∀ x∈l,x=0:=by
 cases l with
 | nil=>exact absurd rfl b
 | cons a r =>
  unfold Lib.maxOf;rw [List.headD_cons,max_zero _ _ h (h a ξ)];exact ⟨fun q=>q.2,fun q=>⟨q a ξ,q⟩⟩
theorem parts_joined {c:Nat→Int} (h:PartsOk (fun _=>true) L c) (f:L.Nodup) (h0:0<L.length):(∀ a,a<L.length→c a=0)↔Joined L:=by
 obtain ⟨h1,h2,h3,h4⟩:=h
 have j:c 0=0:=by
  rcases Int.lt_or_le 0 (c 0) with q | q
  ·obtain ⟨b,g,_⟩:=h4 0 h0 0 (Int.le_refl _) q;omega
  ·have:=h1 0 h0;omega
 exact reached_joined h0 (fun a=>c a=0) j (fun a e q=>reach_all.1 (h3 0 a h0 e (by rw [j,q]))) (fun a b e g q d=>by
  have:=h2 a b e g ⟨d.1,d.2.imp fun _ i=>⟨i.1,i.2,rfl⟩⟩;omega) f
theorem Uw (w:World) (v s B:Nat) (o:Option Addr) (L:List T3) (hs:Steps w) (i:PA w o s L) (E:L.length≤300) (d:L.Nodup) (l:∀ t∈L,(0≤t.1∧t.1≤8)∧(0≤t.2.1∧t.2.1≤8)∧(0≤t.2.2∧t.2.2≤3)) :
  Cl 172 #[.agg #[.slice o L.length v,.map (some s),.map (some B)]] w fun e w'=>∃ bb:Bool,e=.returned (.bool bb)∧(bb=true↔Joined L)∧Bl w w':=by
 have C:Hid (∀ h:World,Bl w h→Cl 84 #[.agg #[.slice o L.length v,.map (some s),.map (some B)],.func (.func 250) #[] #[]] h fun e w'=>∃ g b,e=.returned (.slice (Az g) L.length L.length)∧ZRow w' g L.length b∧PartsOk (fun _=>true) L b∧h.heap.size≤g∧Bl h w'):=fun h c=>parts_all h v s B o L (fun _=>true) (hs.kept c) (i.kept c) E d l (fun J K M A N O D _=>joined1_any J K M A N O D);have u:=Hd d;clear hs i d l;by_cases h0:0<L.length
 ·have H:(0:Int)<(L.length:Int):=γ;go_enter Tryz.func172,Tryz.ntmps172
  go_wp2_with (first
   | (go_at_call 84;refine (C.out _ Θ).mono ?_;rintro e w1 ⟨g,b,rfl,r,p,hg,c⟩;have f:=H3 r p (Qc β1 c);clear r p c hg)
   | (go_at_call 161;refine (Tryz.slices_Max_int g 0 L.length L.length ((List.range L.length).map b) _ h0 ξ γ (fun j F=>by
     have m:j<L.length:=by simpa using F
     rw [Nat.zero_add,(f.out.1 j m).1];simp [m])).mono ?_;rintro e P ⟨rfl,n⟩;have y:=n.symm;clear n;subst y))
  go_ret
  have G:(Lib.maxOf (((List.range L.length).map b).take L.length)=0)↔Joined L:=by
   rw [List.take_of_length_le ξ,maxOf_zero (fun q=>by
    have A:=congrArg List.length q;rw [List.length_map,List.length_range,List.length_nil] at A;omega) (fun x z=>by
    obtain ⟨a,k,rfl⟩:=List.mem_map.1 z;exact f.out.2.1.1 a (by simpa using k))]
   rw [← parts_joined f.out.2.1 u.out h0];constructor
   ·intro q a k;exact q _ (List.mem_map.2 ⟨a,by simpa using k,rfl⟩)
   ·intro q x z;obtain ⟨a,k,rfl⟩:=List.mem_map.1 z;exact q a (by simpa using k)
  refine ⟨_,rfl, ?_,f.out.2.2⟩;rw [← G];simp
 ·have H:¬ (0:Int)<(L.length:Int):=γ;go_enter Tryz.func172,Tryz.ntmps172;go_wp2_with (go_at_call 84;refine (C.out _ Θ).mono ?_;rintro e w1 ⟨g,b,rfl,r,p,hg,c⟩;have f:=Hd (Qc β1 c);clear r p c hg)
  go_ret;refine ⟨_,rfl,⟨fun q=>?_,fun q=>absurd q.1 h0⟩,f.out⟩;first | exact Bool.noConfusion q | (exfalso;simp at q;done) | (exfalso;simp at q;omega)
end Go.Proofs.YtnpboeodhpenmaaGreatDoor
