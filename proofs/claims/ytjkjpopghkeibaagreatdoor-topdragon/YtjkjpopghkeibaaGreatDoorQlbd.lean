/- A part of it. -/
import Derived.Test.YtjkjpopghkeibaaGreatDoorQlax
import Derived.Test.YtjkjpopghkeibaaGreatDoorQlba
import Derived.Test.YtjkjpopghkeibaaGreatDoorQlbc
set_option maxRecDepth 100000
set_option maxHeartbeats 40000000
namespace Go.Proofs.YtjkjpopghkeibaaGreatDoor
open Go.RowKit Go.ChangeMaps
variable {L:List T3} {h:Nat→Int} {i n:Nat} {α:Type} {e:E4}
def pt (L:List T3) (M:Nat→M6) (i:Nat):Int×Int×Int:=mvt (M i) (L.getD i (0,0,0))
theorem Gu (L:List T3) (M:Nat→M6) (n i:Nat) (h:i<(pls L M n).length):(pls L M n)[i]=pt L M i:=by simp [pls,pt]
theorem triB_of {t:T3} (h:triT t=true):triB t.1 t.2.1 t.2.2=true:=h
theorem hand25 (v w:World) (d:Option Addr) (k n o g s:Nat) (pa:Option Addr) (pc f:Nat) (b c sd:Int) (t:Bool) (m q r p:Int) (L:List T3) (A:List Int) (B:Nat) (M:Nat→M6) (h:Nat→Int) (mv:Value) (u:HandAt v w d k n o g pa f L A B M h) (hs:Steps w) (h0:0<L.length) (hl:lineB b c=true) (x:∀ i,i<L.length→MOk1 L M i) (l:sd=1∨sd=-1) (j:0≤m) :
  Rt 25 #[.agg #[.slice d L.length k,.map (some n),.map (some o),.slice (Az g) L.length s,.slice pa L.length pc,.func (.func 90) #[] #[.pointer (Az f)],I b,I c,I sd,.bool t,I m,I q,I r,I p,mv]] w (.bool true):=by
 have a:=Yj L M L.length;have hp:0<(pls L M L.length).length:=γ;have hq:=Gu L M L.length 0 hp
 have z:=mayFold_any (.slice d L.length k) (.map (some n)) (.map (some o)) (.slice (Az g) L.length s) (.func (.func 90) #[] #[.pointer (Az f)]) mv pa L.length pc b c sd m q r p t (pls L M L.length) (sideN b c (pt L M 0).1 (pt L M 0).2.1 (pt L M 0).2.2) 0 w u.2.2.1 a hp (fun V y=>by
  rw [hq];exact Side_in _ _ _ _ _ V (triB_of (x 0 h0).2) hl (hs.kept y))
 refine z.mono ?_;rintro e w' ⟨rfl,hb⟩;refine ⟨?_,hb⟩;rcases l with rfl | rfl <;> simp [j]
def onS (L:List T3) (M:Nat→M6) (wy c sd:Int) (i:Nat):Bool:=decide (sideN wy c (pt L M i).1 (pt L M i).2.1 (pt L M i).2.2=sd)
theorem hand26 (x w:World) (d:Option Addr) (k j l g p:Nat) (pa:Option Addr) (pc f:Nat) (a c sd:Int) (r:Bool) (n o m:Int) (L:List T3) (A:List Int) (B:Nat) (M:Nat→M6) (h:Nat→Int) (mv:Value) (t:HandAt x w d k j l g pa f L A B M h) (hs:Steps w) (y:L.length≤300) (hl:lineB a c=true) (z:∀ i,i<L.length→MOk1 L M i) :
  Cl 26 #[.agg #[.slice d L.length k,.map (some j),.map (some l),.slice (Az g) L.length p,.slice pa L.length pc,.func (.func 90) #[] #[.pointer (Az f)],I a,I c,I sd,.bool r,I 0,I n,I o,I m,mv]] w fun e w'=>∃ v,e=.returned (.tuple #[v,.bool true])∧w'.ownsRow w.heap.size 3 1 v (whL (onS L M a c sd) L.length).length (nuV (whL (onS L M a c sd) L.length))∧Bl w w':=by
 have b:=Yj L M L.length;refine held_all (.map (some j)) (.map (some l)) (.slice (Az g) L.length p) (.func (.func 90) #[] #[.pointer (Az f)]) mv d pa L.length k L.length pc a c sd n o m r (onS L M a c sd) w y (fun V i s hi=>?_);have hp:i<(pls L M L.length).length:=γ;have hq:=Gu L M L.length i hp
 exact onSide_any (.slice d L.length k) (.map (some j)) (.map (some l)) (.slice (Az g) L.length p) (.func (.func 90) #[] #[.pointer (Az f)]) mv pa L.length pc a c sd 0 n o m r i (pls L M L.length) (sideN a c (pt L M i).1 (pt L M i).2.1 (pt L M i).2.2) 0 V (t.2.2.1.kept s) b hp (fun u q=>by
  rw [hq];exact Side_in _ _ _ _ _ u (triB_of (z i hi).2) hl (hs.kept (Qc s q)))
theorem partsOk_le {cr:E4→Bool} {part:Nat→Int} (h:PartsOk cr L part):∀ i,i<L.length→0≤part i∧part i≤(i:Int):=by
 intro i;induction i using Nat.strongRecOn with
 | _ i ih =>
  intro hi;refine ⟨h.1 i hi, ?_⟩;by_cases q:part i≤(i:Int)
  ·exact q
  ·obtain ⟨b,hb,e⟩:=h.2.2.2 i hi (part i - 1) γ γ;have:=(ih b hb γ).2;omega
theorem own_numR {w:World} {base:Nat} {v:Value} {l:List Nat} (h:w.ownsRow base 3 1 v l.length (nuV l)):∃ a b,v=.slice a l.length b∧NumR w a l:=by
 obtain ⟨a,b,rfl,hs⟩:=Xi h;refine ⟨a,b,rfl,fun j c=>?_⟩;obtain ⟨g,rfl⟩:=hs γ;refine ⟨g,rfl, ?_⟩;have:=h.cellAt j γ;(try simp only [At,I]);rw [this]
 simp [nuV,c]
def crF (M:Nat→M6) (wy c:Int) (i:Nat) (e:E4):Bool := !(decide (lnW (bro (M i) e)=wy) && decide (lnC (bro (M i) e)=c))
theorem hand27 (V0 w:World) (a:Option Addr) (k d f m l:Nat) (pa:Option Addr) (pc A:Nat) (z c sd:Int) (G:Bool) (F C D B:Int) (L:List T3) (ks:List Int) (nk:Nat) (M:Nat→M6) (h:Nat→Int) (mv v:Value) (base:Nat) (hl:List Nat) (cr:E4→Bool) (mw:Nat→Bool) (U:HandAt V0 w a k d f m pa A L ks nk M h) (hs:Steps w) (h0:0<L.length) (Z:L.length≤300) (R:L.Nodup) (K:∀ t∈L,(0≤t.1∧t.1≤8)∧(0≤t.2.1∧t.2.1≤8)∧(0≤t.2.2∧t.2.2≤3)) (hM:∀ i,i<L.length→MOk1 L M i) (ho:w.ownsRow base 3 1 v hl.length (nuV hl)) (N:hl.length≤300) (O:∀ j (h:j<hl.length),hl[j]<L.length)
  (hcr:∀ i (hi:i<L.length) (e:E4),hasT L[i] e=true→((-4000000≤e.1∧e.1≤4000000)∧(-4000000≤e.2.1∧e.2.1≤4000000)∧(-4000000≤e.2.2.1∧e.2.2.1≤4000000)∧(-4000000≤e.2.2.2∧e.2.2.2≤4000000))∧(-4000000≤(bro (M i) e).1∧(bro (M i) e).1≤4000000)∧(-4000000≤(bro (M i) e).2.1∧(bro (M i) e).2.1≤4000000)∧crF M z c i e=cr e)
  (Q:∀ part,PartsOk cr L part→∀ i,i<L.length→(hl.any fun x=>decide (part x=part i))=mw i) :
  Cl 27 #[.agg #[.slice a L.length k,.map (some d),.map (some f),.slice (Az m) L.length l,.slice pa L.length pc,.func (.func 90) #[] #[.pointer (Az A)],I z,I c,I sd,.bool G,I F,I C,I D,I B,mv],v] w fun e w'=>∃ gv,e=.returned (.slice (Az gv) L.length L.length)∧YRow w' gv L.length mw∧w.heap.size≤gv∧Bl w w':=by
 obtain ⟨hp,hc,rfl,hN⟩:=own_numR ho;refine (alongF_any (.slice a L.length k) (.map (some d)) (.map (some f)) (.slice pa L.length pc) (.func (.func 90) #[] #[.pointer (Az A)]) (I sd) (.bool G) (I F) (I C) (I D) (I B) mv m L.length l hc hp z c hl (PartsOk cr L) w h0 Z N hN O (fun part J i hi=>by have:=partsOk_le J i hi;omega) ?_).mono ?_
 ·have n:Bl w (w.alloc (.cells #[.slice a L.length k,.map (some d),.map (some f),.slice (Az m) L.length l,.slice pa L.length pc,.func (.func 90) #[] #[.pointer (Az A)],I z,I c,I sd,.bool G,I F,I C,I D,I B,mv] 66)):=Qb (Qe _);refine parts_c _ k d f a L w.heap.size cr (hs.kept n) ((U.pile l pc).tr.kept n) Z R K (fun i j hi hj q r s y W a6 T a7 E=>?_);have hB:=Qc n E;obtain ⟨⟨g1,g2,g3,g4⟩,g5,Y,g7⟩:=hcr i hi (q,r,s,y) T;have e9:cr (q,r,s,y)=(!(decide (lnW (bro (M i) (q,r,s,y))=z) && decide (lnC (bro (M i) (q,r,s,y))=c))):=g7.symm;rw [e9];have p:∀ o u,(w.alloc (.cells #[.slice a L.length k,.map (some d),.map (some f),.slice (Az m) L.length l,.slice pa L.length pc,.func (.func 90) #[] #[.pointer (Az A)],I z,I c,I sd,.bool G,I F,I C,I D,I B,mv] 66)).cell? ⟨w.heap.size,o,none⟩=some u→At W w.heap.size o u:=fun o u hu=>Qa E hu;refine along_asks (.slice a L.length k) (.map (some d)) (.map (some f)) (.slice pa L.length pc) (.func (.func 90) #[] #[.pointer (Az A)]) (I sd) (.bool G) (I F) (I C) (I D) (I B) mv m L.length l w.heap.size (i:Int) (j:Int) q r s y z c _ _ W (p 0 _ δ) (p 1 _ δ) (p 2 _ δ) (p 3 _ δ) (p 4 _ δ) (p 6 _ δ) (p 7 _ δ) (fun V hV=>?_);have P:=(U.2.1.kept (Qc hB hV)) i hi;obtain ⟨⟨a0,a1,X,a3,a4,a5⟩,_⟩:=P;have b:=(hM i hi).1;generalize M i=mm at a0 a1 X a3 a4 a5 b g5 Y ⊢;obtain ⟨m0,m1,m2,m3,m4,m5⟩:=mm;obtain ⟨s1,s2,s3⟩:=map_smM b;exact pileLine_any (.slice a L.length k) (.map (some d)) (.map (some f)) (.slice pa L.length pc) m L.length l i q r s y m0 m1 m2 m3 m4 m5 _ _ _ _ _ _ V hi a0 a1 X a3 a4 a5 (fun H=>brought_any q r s y m0 m1 m2 m3 m4 m5 H s1 s2 s3 g1 g2 g3 g4) (fun H=>lineOf_wide _ _ _ _ H g5 Y)
 ·rintro e w' ⟨g,part,rfl,hY,J,hg,hb⟩;exact ⟨g,rfl,fun i hi=>by rw [← Q part J i hi];exact hY i hi,hg,hb⟩
structure Dg where
 cs:List C5
 ml:List M6
 T:List (T3×List Nat)
 hl:List Int
def gM (d:Dg) (i:Nat):M6:=d.ml.getD i idM
def gK (cs:List C5):List Int:=cs.flatMap fun c=>[c.1.1,c.1.2.1,c.1.2.2.1,c.1.2.2.2,c.2]
def gKd (d:Dg):E4→Int:=kdn (gK d.cs) d.cs.length
def gS (L:List T3) (d:Dg):List (T3×List T3):=d.T.map fun s=>(s.1,tgn L s.2)
def gH (d:Dg) (i:Nat):Int:=d.hl.getD i 0
def gP (L:List T3) (d:Dg) (i:Nat):T3:=mvt (gM d i) (L.getD i (0,0,0))
def gJs (L:List T3):List (Nat×C5):=(List.range L.length).flatMap fun i=>(jl L (L.getD i (0,0,0)) i 3).map fun q=>(i,q)
def gF (kd:E4→Int) (M:Nat→M6) (pl:Nat→T3) (E:E4) (D:MD) (p:Nat×C5):MD :=
 if (p.1:Int)<p.2.2∧E=bro (M p.1) p.2.1 then mt D (kd p.2.1) (tov (M p.1)) (sd E (pl p.1)) p.1 p.2.2.toNat else D
def gD (kd:E4→Int) (M:Nat→M6) (pl:Nat→T3) (J:List (Nat×C5)) (E:E4):MD:=J.foldl (gF kd M pl E) mdZ
def okCr (L:List T3) (d:Dg):Bool:=(List.range d.cs.length).all fun i =>
 (decide (i=0) || lessE (ck (gK d.cs) (i - 1) 0) (ck (gK d.cs) (i - 1) 1) (ck (gK d.cs) (i - 1) 2) (ck (gK d.cs) (i - 1) 3) (ck (gK d.cs) i 0) (ck (gK d.cs) i 1) (ck (gK d.cs) i 2) (ck (gK d.cs) i 3)) &&
 (decide (ck (gK d.cs) i 4=1) || decide (ck (gK d.cs) i 4=2)) && decide (cnt L (ck (gK d.cs) i 0) (ck (gK d.cs) i 1) (ck (gK d.cs) i 2) (ck (gK d.cs) i 3)=2)
def okM (L:List T3) (J:List (Nat×C5)) (d:Dg):Bool:=((List.range L.length).all fun i=>mapM (gM d i) && triT (gP L d i)) && J.all fun p=>decide (gM d p.2.2.toNat=bynd (gKd d) p.2.1 (gM d p.1))
def ltTb (a b:T3):Bool:=decide (a.2.1<b.2.1) || (decide (a.2.1=b.2.1) && (decide (a.1<b.1) || (decide (a.1=b.1) && decide (a.2.2<b.2.2))))
def okT (n:Nat) (P:Nat→T3) (h:Nat→Int) (T:List (T3×List Nat)):Bool :=
 (List.range T.length).all (fun i=>(List.range i).all fun k=>ltTb (T.getD k ((0,0,0),[])).1 (T.getD i ((0,0,0),[])).1) &&
 T.all (fun s => !s.2.isEmpty && (List.range s.2.length).all (fun i=>(List.range i).all fun k=>decide (h (s.2.getD k 0)<h (s.2.getD i 0))) && s.2.all fun j=>decide (j<n) && decide (P j=s.1)) &&
 (List.range n).all fun j=>T.any fun s=>s.2.contains j
def okL (L:List T3) (d:Dg):Bool:=decide ((d.T.flatMap fun s=>s.2).length=L.length) && d.T.all fun s=>(List.range s.2.length).all fun k=>decide (gH d (s.2.getD k 0)=(k:Int))
def okC (L:List T3) (J:List (Nat×C5)) (d:Dg):Bool:=J.all fun p=>decide (clN (rl (gH d) (gD (gKd d) (gM d) (gP L d) J (bro (gM d p.1) p.2.1))) 4=[])
def okB (L:List T3) (d:Dg):Bool:=decide (d.cs.length≤100) && decide (d.T.length≤100) && d.T.all (fun s=>decide (s.2.length≤100)) && (List.range L.length).all fun i=>decide (0≤gH d i∧gH d i≤99)
def okG (L:List T3) (J:List (Nat×C5)) (d:Dg):Bool:=okCr L d && okM L J d && okT L.length (gP L d) (gH d) d.T && okL L d && okC L J d && okB L d
def gRf (m:M6) (c:Int):M6:=((aft m (mir 0 0)).1,(aft m (mir 0 0)).2.1,(aft m (mir 0 0)).2.2.1,(aft m (mir 0 0)).2.2.2.1,(aft m (mir 0 0)).2.2.2.2.1+2*c,(aft m (mir 0 0)).2.2.2.2.2+0)
def gMw (L:List T3) (d:Dg) (c:Int) (i:Nat):Bool:=onS L (gM d) 0 c 1 i
def gH2 (L:List T3) (d:Dg) (c:Int) (ov:Bool) (i:Nat):Int:=if gMw L d c i then (if ov then 1000 - gH d i else -1000 - gH d i) else gH d i
def gSL (L:List T3) (J:List (Nat×C5)) (d:Dg) (c:Int):List C5:=(J.filter fun p=>gMw L d c p.1 && !gMw L d c p.2.2.toNat).map fun p=>p.2
def gCs (L:List T3) (J:List (Nat×C5)) (d:Dg) (c:Int) (ov:Bool):List C5:=d.cs ++ (gSL L J d c).map (sk fun j=>if ov=tov (gM d j.2.toNat) then 1 else 2)
def okS (L:List T3) (J:List (Nat×C5)) (d:Dg) (c:Int) (ov:Bool) (d':Dg):Bool :=
 (J.all fun p=>(crF (gM d) 0 c p.1 p.2.1 == crF (gM d) 0 c p.2.2.toNat p.2.1) && (!crF (gM d) 0 c p.1 p.2.1 || (gMw L d c p.1 == gMw L d c p.2.2.toNat))) &&
 ((List.range L.length).any (gMw L d c) && (List.range L.length).any (fun i => !gMw L d c i)) &&
 ((gSL L J d c).all fun j=>decide (gKd d j.1=0)) &&
 (gCs L J d c ov).isPerm d'.cs &&
 (List.range d'.cs.length).all (fun i=>(List.range i).all fun k=>ltE (d'.cs.getD k ((0,0,0,0),0)) (d'.cs.getD i ((0,0,0,0),0))) &&
 (List.range L.length).all (fun i=>decide (gM d' i=if gMw L d c i then gRf (gM d i) c else gM d i) && mapM (aft (gM d i) (mir 0 0))) &&
 okT L.length (gP L d') (gH2 L d c ov) d'.T
def gR (i:Nat):Nat:=if i<4 then [0,1,2,1].getD i 0 else 4*(i / 4) + [1,2,1,0].getD (i % 4) 0
def okW (L:List T3) (J:List (Nat×C5)):Bool :=
 (List.range L.length).all (fun i=>(List.range i).all fun k=>ltTb (L.getD k (0,0,0)) (L.getD i (0,0,0))) &&
 L.all (fun t=>decide ((0≤t.1∧t.1≤8)∧(0≤t.2.1∧t.2.1≤8)∧(0≤t.2.2∧t.2.2≤3))) && decide (0<L.length∧L.length≤32) &&
 (List.range L.length).all (fun i=>decide ((jl L (L.getD i (0,0,0)) i 3).length≤3)) &&
 (List.range L.length).all fun i=>decide (i=0) || J.any fun p=>decide (gR p.1<gR i) && decide (p.2.2=(i:Int))
theorem gA_js (kd:E4→Int) (L:List T3) (M:Nat→M6) (pl:List T3):∀ n,gA kd L M pl n=((List.range n).flatMap fun i=>(jl L (L.getD i (0,0,0)) i 3).map fun q=>(i,q)).foldl (fun G p=>stJ kd M pl p.1 G p.2) (fun _=>mdZ)
 | 0=>rfl
 | n+1=>by
  rw [List.range_succ,List.flatMap_append,List.foldl_append,← gA_js kd L M pl n];simp [gA,Proofs.YtjkjpopghkeibaaGreatDoor.gJ,List.foldl_map]
theorem stJ_at (kd:E4→Int) (M:Nat→M6) (pl:List T3) (E:E4):∀ (J:List (Nat×C5)) (G:E4→MD),(J.foldl (fun G p=>stJ kd M pl p.1 G p.2) G) E=J.foldl (gF kd M (fun i=>pl.getD i (0,0,0)) E) (G E)
 | [],_=>rfl
 | p :: J,G=>by
  rw [List.foldl_cons,List.foldl_cons,stJ_at kd M pl E J];congr 1
  unfold stJ gF;by_cases h1:(p.1:Int)<p.2.2
  ·by_cases h2:E=bro (M p.1) p.2.1
   ·subst h2;simp [h1]
   ·simp [h1,h2]
  ·simp [h1]
theorem foldl_mem {β:Type} {f g : β → α → β}:∀ (J:List α) (D : β),(∀ D,∀ p∈J,f D p=g D p)→J.foldl f D=J.foldl g D
 | [],_,_=>rfl
 | p :: J,D,h=>by
  rw [List.foldl_cons,List.foldl_cons,h D p ξ];exact foldl_mem J _ fun D q hq=>h D q (by simp [hq])
theorem gD_none {kd:E4→Int} {M:Nat→M6} {pl:Nat→T3} {E:E4}:∀ {J:List (Nat×C5)} (D:MD),(∀ p∈J,E≠bro (M p.1) p.2.1)→J.foldl (gF kd M pl E) D=D
 | [],_,_=>rfl
 | p :: J,D,h=>by
  rw [List.foldl_cons];have:gF kd M pl E D p=D:=by simp [gF,h p ξ]
  rw [this];exact gD_none D fun q hq=>h q (by simp [hq])
theorem js_mem {q:C5}:(i,q)∈gJs L↔i<L.length∧q∈jl L (L.getD i (0,0,0)) i 3:=by
 simp [gJs]
theorem pls_getD {M:Nat→M6} (h:i<L.length):(pls L M L.length).getD i (0,0,0)=mvt (M i) (L.getD i (0,0,0)):=by
 simp [pls,h]
theorem okC_cl {d:Dg} (h:okC L (gJs L) d=true) (E:E4):clN (rl (gH d) (gA (gKd d) L (gM d) (pls L (gM d) L.length) L.length E)) 4=[]:=by
 have e:gA (gKd d) L (gM d) (pls L (gM d) L.length) L.length E=gD (gKd d) (gM d) (gP L d) (gJs L) E:=by
  rw [gA_js,stJ_at];refine foldl_mem _ _ fun D p hp=>?_;obtain ⟨i,q⟩:=p;have hi:=(js_mem.1 hp).1;have:(pls L (gM d) L.length).getD i (0,0,0)=gP L d i:=pls_getD hi;unfold gF;simp only [this]
 rw [e];by_cases hx:∃ p∈gJs L,E=bro (gM d p.1) p.2.1
 ·obtain ⟨p,hp,rfl⟩:=hx;have:=List.all_eq_true.1 h p hp;simpa using this
 ·have:gD (gKd d) (gM d) (gP L d) (gJs L) E=mdZ:=gD_none _ fun p hp a=>hx ⟨p,hp,a⟩;rw [this];simp [clN,rl,mdZ,twB,tnB]
theorem okM_mo {d:Dg} (h:okM L (gJs L) d=true):MOk (gKd d) L (gM d):=by
 unfold okM at h;rw [Bool.and_eq_true] at h;refine ⟨fun i hi=>?_,fun i hi q hq j a=>?_⟩
 ·have:=List.all_eq_true.1 h.1 i (by simp [hi]);rw [Bool.and_eq_true] at this;exact ⟨this.1,this.2⟩
 ·have:=List.all_eq_true.1 h.2 (i,q) (js_mem.2 ⟨hi,hq⟩);simp only [decide_eq_true_eq] at this;rw [a] at this;exact this
theorem ltTb_iff (a b:T3):ltTb a b=true↔ltT a b:=by simp [ltTb,ltT]
theorem okCr_ok {d:Dg} (h:okCr L d=true) (i:Nat) (hi:i<d.cs.length):CrOk L (gK d.cs) i:=by
 have:=List.all_eq_true.1 h i (by simp [hi]);simp only [Bool.and_eq_true,Bool.or_eq_true,decide_eq_true_eq] at this;refine ⟨fun h0=>?_,this.1.2,this.2⟩;rcases this.1.1 with e | e
 ·omega
 ·exact e
theorem all_pairs {r : α → α→Prop} {f : α → α→Bool} (e:∀ a b,f a b=true→r a b) (l:List α) (z : α) (h:(List.range l.length).all (fun i=>(List.range i).all fun k=>f (l.getD k z) (l.getD i z))=true):l.Pairwise r:=by
 rw [List.pairwise_iff_getElem];intro i j hi d c;have h1:=List.all_eq_true.1 (List.all_eq_true.1 h j (by simp [d])) i (by simp [c]);have:=e _ _ h1;simpa [hi,d] using this
theorem okT_heap {P:Nat→T3} {T:List (T3×List Nat)} (k:okT n P h T=true):Heap n P h T:=by
 unfold okT at k;rw [Bool.and_eq_true,Bool.and_eq_true] at k;refine ⟨?_,fun s hs=>?_,fun j c=>?_⟩
 ·exact all_pairs (f:=fun a b=>ltTb a.1 b.1) (fun a b h=>(ltTb_iff _ _).1 h) T ((0,0,0),[]) k.1.1
 ·have:=List.all_eq_true.1 k.1.2 s hs;rw [Bool.and_eq_true,Bool.and_eq_true] at this;refine ⟨fun e=>?_,all_pairs (f:=fun a b=>decide (h a<h b)) (fun a b h=>of_decide_eq_true h) s.2 0 this.1.2,fun j c=>?_⟩
  ·have:=this.1.1;rw [e] at this;simp at this
  ·have:=List.all_eq_true.1 this.2 j c;simpa using this
 ·have:=List.all_eq_true.1 k.2 j (by simp [c]);obtain ⟨s,hs,d⟩:=List.any_eq_true.1 this;exact ⟨s,hs,by simpa using d⟩
theorem hup_nodup {l:List Nat} (k:l.Pairwise fun i j=>h i<h j):l.Nodup:=k.imp fun a e=>by subst e;omega
theorem tgn_nodup (b:L.Nodup):∀ {l:List Nat},l.Nodup→(∀ j∈l,j<L.length)→(tgn L l).Nodup
 | [],_,_=>List.nodup_nil
 | x :: l,h,k=>by
  rw [List.nodup_cons] at h;have c:=k x ξ;show (L.getD x (0,0,0) :: tgn L l).Nodup
  rw [List.nodup_cons];refine ⟨fun g=>?_,tgn_nodup b h.2 fun j f=>k j (by simp [f])⟩;obtain ⟨y,d,e⟩:=List.mem_map.1 g;have a:=k y (by simp [d]);rw [Qz L x c,Qz L y a] at e;have:=Jj b a c e;subst this;exact h.1 d
theorem gS_ok {d:Dg} (r:L.Nodup) (v:Heap L.length (gP L d) (gH d) d.T) (k:okL L d=true):StOk L (plF (pls L (gM d) L.length)) (gS L d)∧Lv (gS L d) L (gH d) (gS L d).length 0:=by
 unfold okL at k;rw [Bool.and_eq_true] at k;obtain ⟨h1,h2,h3⟩:=v;constructor
 ·refine ⟨fun s hs=>?_,fun n z=>?_,fun s hs t A=>?_,fun s hs=>?_, ?_⟩
  ·obtain ⟨u,f,rfl⟩:=List.mem_map.1 hs;have:=(h2 u f).1;simpa [tgn] using this
  ·have o:n+1<d.T.length:=by simpa [gS] using z
   have:=List.pairwise_iff_getElem.1 h1 n (n+1) γ o γ;simpa [gS] using this
  ·obtain ⟨u,f,rfl⟩:=List.mem_map.1 hs;obtain ⟨j,g,rfl⟩:=List.mem_map.1 A;obtain ⟨a,b⟩:=(h2 u f).2.2 j g;exact ⟨j,a,(Qz L j a).symm,(pls_getD a).trans b⟩
  ·obtain ⟨u,f,rfl⟩:=List.mem_map.1 hs;exact tgn_nodup r (hup_nodup (h2 u f).2.1) fun j g=>((h2 u f).2.2 j g).1
  ·have:=of_decide_eq_true k.1;rw [← this];simp only [allS,gS,List.flatMap_map,List.length_flatMap,tgn,List.length_map]
 ·intro i hi m p y x e _;have l:m<d.T.length:=by simpa [gS] using y
  have c:p<d.T[m].2.length:=by simpa [gS,tgn] using x
  have q:L.getD (d.T[m].2[p]) (0,0,0)=L[i]:=by simpa [gS,tgn] using e
  have h:=((h2 _ (Lm l)).2.2 _ (Lm c)).1;rw [Qz L _ h] at q;have g:=Jj r h hi q;have:=List.all_eq_true.1 (List.all_eq_true.1 k.2 _ (Lm l)) p (by simp [c]);simp only [decide_eq_true_eq,List.getD_eq_getElem?_getD,List.getElem?_eq_getElem c,Option.getD_some] at this;rw [g] at this;exact this
structure GoodD (L:List T3) (d:Dg):Prop where
 cr:∀ i,i<d.cs.length→CrOk L (gK d.cs) i
 mo:MOk (gKd d) L (gM d)
 st:StOk L (plF (pls L (gM d) L.length)) (gS L d)
 lv:Lv (gS L d) L (gH d) (gS L d).length 0
 cl:∀ E,clN (rl (gH d) (gA (gKd d) L (gM d) (pls L (gM d) L.length) L.length E)) 4=[]
 cn:d.cs.length≤100
 sl:(gS L d).length≤100
 se:∀ s∈gS L d,s.2.length≤100
 hb:∀ i,i<L.length→0≤gH d i∧gH d i≤99
 hp:Heap L.length (gP L d) (gH d) d.T
theorem okG_good {J:List (Nat×C5)} {d:Dg} (c:gJs L=J) (e:L.Nodup) (h:okG L J d=true):GoodD L d:=by
 subst c;unfold okG at h;simp only [Bool.and_eq_true] at h;obtain ⟨⟨⟨⟨⟨h1,h2⟩,h3⟩,h4⟩,h5⟩,h6⟩:=h;unfold okB at h6;simp only [Bool.and_eq_true,decide_eq_true_eq] at h6;obtain ⟨⟨⟨k1,k2⟩,k3⟩,g⟩:=h6;obtain ⟨a,b⟩:=gS_ok e (okT_heap h3) h4;refine ⟨okCr_ok h1,okM_mo h2,a,b,okC_cl h5,k1,by simpa [gS] using k2,fun s hs=>?_,fun i hi=>?_,okT_heap h3⟩
 ·obtain ⟨u,f,rfl⟩:=List.mem_map.1 hs;have:=List.all_eq_true.1 k3 u f;simpa [tgn] using this
 ·have:=List.all_eq_true.1 g i (by simp [hi]);simpa using this
structure StripD (L:List T3):Prop where
 up:L.Pairwise ltT
 nd:L.Nodup
 bd:∀ t∈L,(0≤t.1∧t.1≤8)∧(0≤t.2.1∧t.2.1≤8)∧(0≤t.2.2∧t.2.2≤3)
 pos:0<L.length
 le:L.length≤32
 jo:Joined L
 j3:∀ i,i<L.length→(jl L (L.getD i (0,0,0)) i 3).length≤3
theorem js_adj {j:Nat} (c:L.Nodup) (h:(i,(e,(j:Int)))∈gJs L):∃ hi:i<L.length,∃ hj:j<L.length,L[j]≠L[i]∧hasT L[i] e=true∧hasT L[j] e=true:=by
 obtain ⟨hi,h⟩:=js_mem.1 h;obtain ⟨k,f,rfl,m,b,e1,a,d⟩:=Yz.1 h;have:j=m:=γ;subst this;refine ⟨hi,b,fun e=>a (Jj c b hi e), ?_,d⟩;rw [Qz L i hi];exact Jc _ _
theorem okW_strip {J:List (Nat×C5)} (g:gJs L=J) (h:okW L J=true):StripD L:=by
 subst g;unfold okW at h;simp only [Bool.and_eq_true] at h;obtain ⟨⟨⟨⟨h1,h2⟩,h3⟩,h5⟩,h4⟩:=h;have up:L.Pairwise ltT:=all_pairs (f:=ltTb) (fun a b h=>(ltTb_iff _ _).1 h) L (0,0,0) h1;have nd:L.Nodup:=up_nodup up;obtain ⟨d,n⟩:=of_decide_eq_true h3;refine ⟨up,nd,fun t m=>of_decide_eq_true (List.all_eq_true.1 h2 t m),d,n,⟨d, ?_⟩,fun i hi=>of_decide_eq_true (List.all_eq_true.1 h5 i (by simp [hi]))⟩
 have:∀ r i,gR i=r→∀ hi:i<L.length,Reach L L[0] L[i]:=by
  intro r;induction r using Nat.strongRecOn with
  | _ r ih =>
  intro i hr hi;have:=List.all_eq_true.1 h4 i (by simp [hi]);simp only [Bool.or_eq_true,decide_eq_true_eq,List.any_eq_true,Bool.and_eq_true] at this;rcases this with rfl | ⟨⟨k,e,j⟩,hp,l,c⟩
  ·exact Reach.here (Lm _)
  ·dsimp only at l c;subst c;obtain ⟨a,b,c1,c2,c3⟩:=js_adj nd hp;exact (ih (gR k) γ k rfl a).step (Lm _) ⟨c1,e,c2,c3⟩
 exact fun i=>this (gR i) i rfl
def gCr (L:List T3) (d:Dg) (c:Int) (e:E4):Bool:=crF (gM d) 0 c ((gix L e).headD 0).toNat e
def gKs (d:Dg) (ov:Bool) (j:C5):Int:=if ov=tov (gM d j.2.toNat) then 1 else 2
def gJl (L:List T3) (i:Nat):List C5:=if i<L.length then jl L (L.getD i (0,0,0)) i 3 else []
theorem flatMap_mem {β:Type} {f g : α→List β}:∀ (l:List α),(∀ x∈l,f x=g x)→l.flatMap f=l.flatMap g
 | [],_=>rfl
 | x :: l,h=>by rw [List.flatMap_cons,List.flatMap_cons,h x ξ,flatMap_mem l fun y a=>h y (by simp [a])]
structure StepD (L:List T3) (d:Dg) (c:Int) (ov:Bool) (d':Dg):Prop where
 hcr:∀ i (hi:i<L.length) (e:E4),hasT L[i] e=true→crF (gM d) 0 c i e=gCr L d c e
 mw:∀ part,PartsOk (gCr L d c) L part→∀ i,i<L.length→((whL (gMw L d c) L.length).any fun x=>decide (part x=part i))=gMw L d c i
 yes:∀ b,hasB9 (gMw L d c) b L.length=true
 un:((smL (gMw L d c) (gJl L) L.length).any fun j => !decide (gKd d j.1=0))=false
 pm:(crL (gKs d ov) d.cs (smL (gMw L d c) (gJl L) L.length) (smL (gMw L d c) (gJl L) L.length).length).Perm d'.cs
 up:d'.cs.Pairwise fun x y=>ltE x y=true
 mp:∀ i,i<L.length→gM d' i=if gMw L d c i then gRf (gM d i) c else gM d i
 hp:Heap L.length (gP L d') (gH2 L d c ov) d'.T
 mf:∀ i,i<L.length→mapM (aft (gM d i) (mir 0 0))=true
theorem smL_js (L:List T3) (d:Dg) (c:Int):smL (gMw L d c) (gJl L) L.length=gSL L (gJs L) d c:=by
 unfold smL gSL gJs;rw [List.filter_flatMap,List.map_flatMap];refine flatMap_mem _ fun i hi=>?_;have a:i<L.length:=by simpa using hi
 unfold gJl;rw [if_pos a,List.filter_map,List.map_map];simp [Function.comp_def];rfl
theorem jl3 (a:StripD L) (i:Nat):(gJl L i).length≤3:=by
 unfold gJl;split
 ·exact a.j3 i ‹_›
 ·simp
theorem js_of {j:Nat} (hi:i<L.length) (c:j<L.length) (a:j≠i) (h1:hasT L[i] e=true) (h2:hasT L[j] e=true):(i,(e,(j:Int)))∈gJs L:=by
 obtain ⟨k,d,b⟩:=Vw h1;refine js_mem.2 ⟨hi,Yz.2 ⟨k,d, ?_,j,c,rfl,a,h2⟩⟩;rw [Qz L i hi];exact b.symm
theorem okS_step {J:List (Nat×C5)} {d t:Dg} {c:Int} {s:Bool} (G:gJs L=J) (H:L.Nodup) (h:okS L J d c s t=true):StepD L d c s t:=by
 subst G;unfold okS at h;simp only [Bool.and_eq_true] at h;obtain ⟨⟨⟨⟨⟨⟨h1,h2⟩,h3⟩,h4⟩,h5⟩,h6⟩,F⟩:=h
 have c1:∀ {i j:Nat} {e:E4},(i,(e,(j:Int)))∈gJs L→crF (gM d) 0 c i e=crF (gM d) 0 c j e∧(crF (gM d) 0 c i e=true→gMw L d c i=gMw L d c j):=fun {i j e} hp=>by
  have:=List.all_eq_true.1 h1 _ hp;simp only [Bool.and_eq_true,Bool.or_eq_true,beq_iff_eq,Bool.not_eq_true',Int.toNat_natCast] at this;refine ⟨this.1,fun q=>?_⟩;rcases this.2 with e | e
  ·rw [q] at e
   cases e
  ·exact e
 have hcr:∀ i (hi:i<L.length) (e:E4),hasT L[i] e=true→crF (gM d) 0 c i e=gCr L d c e:=fun i hi e C=>by
  have D:(i:Int)∈gix L e:=List.mem_map.2 ⟨i,List.mem_filter.2 ⟨by simp [hi],by rw [Qz L i hi];exact C⟩,rfl⟩;unfold gCr
  cases hg:gix L e with
  | nil=>rw [hg] at D;simp at D
  | cons f r =>
   have K:f∈gix L e:=by rw [hg];simp
   obtain ⟨m,A,rfl⟩:=List.mem_map.1 K;obtain ⟨p,hb⟩:=List.mem_filter.1 A;have n:m<L.length:=by simpa using p
   rw [Qz L m n] at hb;show _=crF (gM d) 0 c (m:Int).toNat e
   rw [Int.toNat_natCast];by_cases q:i=m
   ·rw [q]
   ·exact ((c1 (js_of n hi q hb C)).1).symm
 refine ⟨hcr,fun part hp i hi=>?_,fun b=>?_, ?_, ?_, ?_,fun i hi=>?_,okT_heap F,fun i hi=>?_⟩
 ·cases hb:gMw L d c i with
  | true =>
   rw [List.any_eq_true];exact ⟨i,by simp [whL,hi,hb],ξ⟩
  | false =>
   rw [List.any_eq_false];intro x o;have g:x<L.length∧gMw L d c x=true:=by simpa [whL] using o
   simp only [decide_eq_true_eq];intro e;have hr:=hp.2.2.1 x i g.1 hi e
   have:=hr.2 (fun u=>u∈L∧∀ j (l:j<L.length),L[j]=u→gMw L d c j=gMw L d c x) ⟨Lm _,fun j l e=>by rw [Jj H l g.1 e]⟩ (fun a b p hb v=>by
    refine ⟨hb,fun j l e=>?_⟩;obtain ⟨k,z,rfl⟩:=List.mem_iff_getElem.1 p.1;subst e;obtain ⟨B,e,E,M,N⟩:=v;have y:j≠k:=fun e=>B (by subst e;rfl);rw [← p.2 k z rfl];exact ((c1 (js_of z l y E M)).2 ((hcr k z e E).trans N)).symm)
   have:=this.2 i hi rfl;rw [hb,g.2] at this
   cases this
 ·unfold hasB9;rw [List.any_eq_true]
  cases b with
  | true =>
   obtain ⟨x,o,e⟩:=List.any_eq_true.1 h2.1;exact ⟨x,o,by rw [e];rfl⟩
  | false =>
   obtain ⟨x,o,e⟩:=List.any_eq_true.1 h2.2;exact ⟨x,o,by simp at e;rw [e];rfl⟩
 ·rw [smL_js,List.any_eq_false];intro j l;have:=List.all_eq_true.1 h3 j l;simpa using this
 ·rw [smL_js];have:=List.isPerm_iff.1 h4
  have e:crL (gKs d s) d.cs (gSL L (gJs L) d c) (gSL L (gJs L) d c).length=gCs L (gJs L) d c s:=by
   unfold crL gCs;rw [List.take_length];rfl
  rw [e];exact this
 ·exact all_pairs (f:=ltE) (fun a b h=>h) t.cs ((0,0,0,0),0) h5
 ·have:=List.all_eq_true.1 h6 i (by simp [hi]);rw [Bool.and_eq_true] at this;exact of_decide_eq_true this.1
 ·have:=List.all_eq_true.1 h6 i (by simp [hi]);rw [Bool.and_eq_true] at this;exact this.2
theorem eq_of_up {r : α → α→Prop} (d:∀ a,¬ r a a) (tr:∀ a b c,r a b→r b c→r a c):∀ (A B:List α),A.Pairwise r→B.Pairwise r→(∀ x,x∈A↔x∈B)→A=B
 | [],[],_,_,_=>rfl
 | [],b :: B,_,_,h=>absurd ((h b).2 ξ) ξ
 | a :: A,[],_,_,h=>absurd ((h a).1 ξ) ξ
 | a :: A,b :: B,hA,hB,h=>by
  rw [List.pairwise_cons] at hA hB
  have e:a=b:=by
   rcases List.mem_cons.1 ((h a).1 ξ) with q | q
   ·exact q
   ·rcases List.mem_cons.1 ((h b).2 ξ) with g | g
    ·exact g.symm
    ·exact absurd (tr _ _ _ (hB.1 a q) (hA.1 b g)) (d b)
  subst e;rw [eq_of_up d tr A B hA.2 hB.2 fun x=>?_];constructor
  ·intro f;rcases List.mem_cons.1 ((h x).1 (by simp [f])) with q | q
   ·subst q;exact absurd (hA.1 x f) (d x)
   ·exact q
  ·intro f;rcases List.mem_cons.1 ((h x).2 (by simp [f])) with q | q
   ·subst q;exact absurd (hB.1 x f) (d x)
   ·exact q
theorem heap_all {pl:Nat→T3} {A:List (T3×List Nat)} (k:Heap n pl h A) {s:T3×List Nat} (hs:s∈A) (j:Nat):j∈s.2↔j<n∧pl j=s.1:=by
 refine ⟨(k.2.1 s hs).2.2 j,fun q=>?_⟩;obtain ⟨t,b,a⟩:=k.2.2 j q.1;have:=pair_same k.1 b hs (((k.2.1 t b).2.2 j a).2.symm.trans q.2);rw [← this];exact a
theorem heap_in {pl:Nat→T3} {A B:List (T3×List Nat)} (k:Heap n pl h A) (e:Heap n pl h B) {s:T3×List Nat} (hs:s∈A):s∈B:=by
 obtain ⟨j,g⟩:=List.exists_mem_of_ne_nil _ (k.2.1 s hs).1;obtain ⟨a,b⟩:=(k.2.1 s hs).2.2 j g;obtain ⟨t,d,f⟩:=e.2.2 j a;have e1:t.1=s.1:=((e.2.1 t d).2.2 j f).2.symm.trans b;have e2:t.2=s.2:=eq_of_up (r:=fun i j=>h i<h j) (fun a=>Int.lt_irrefl _) (fun a b c=>Int.lt_trans) _ _ (e.2.1 t d).2.1 (k.2.1 s hs).2.1 fun x=>by rw [heap_all e d,heap_all k hs,e1]
 have:t=s:=Prod.ext e1 e2;rw [← this];exact d
theorem heap_uni {pl:Nat→T3} {A B:List (T3×List Nat)} (k:Heap n pl h A) (d:Heap n pl h B):A=B :=
 eq_of_up (r:=fun a b:T3×List Nat=>ltT a.1 b.1) (fun _a=>Jr _) (fun _a _b _c=>Xq _ _ _) _ _ k.1 d.1 fun _=>⟨heap_in k d,heap_in d k⟩
theorem heap_place {pl pl':Nat→T3} {h':Nat→Int} {A:List (T3×List Nat)} (k:Heap n pl h A) (e:∀ i,i<n→pl i=pl' i) (b:∀ i,i<n→h i=h' i):Heap n pl' h' A :=
 ⟨k.1,fun s hs=>⟨(k.2.1 s hs).1,(k.2.1 s hs).2.1.imp_of_mem (fun c hb q=>by
  rw [← b _ ((k.2.1 s hs).2.2 _ c).1,← b _ ((k.2.1 s hs).2.2 _ hb).1];exact q),fun j a=>⟨((k.2.1 s hs).2.2 j a).1,(e j ((k.2.1 s hs).2.2 j a).1).symm.trans ((k.2.1 s hs).2.2 j a).2⟩⟩,k.2.2⟩
theorem ltE_irr (x:C5):ltE x x≠true:=by simp [ltE,lessE,lessB]
theorem ltE_tr (x y z:C5) (h:ltE x y=true) (k:ltE y z=true):ltE x z=true:=by
 simp only [ltE,lessE,lessB,Bool.or_eq_true,Bool.and_eq_true,decide_eq_true_eq] at *;omega
theorem sort_one {A B C:List C5} (h1:A.Perm B) (h2:A.Pairwise fun x y=>ltE y x=false) (h3:B.Perm C) (h4:C.Pairwise fun x y=>ltE x y=true):A=C:=by
 have hp:=h1.trans h3;have c:∀ x,x∈A↔x∈C:=fun x=>hp.mem_iff;have d:C.Nodup:=h4.imp fun {a b} hab (e:a=b)=>ltE_irr a (by rw [← e] at hab;exact hab)
 have g:∀ x y,x∈C→y∈C→x≠y→ltE x y=true∨ltE y x=true:=by
  intro x y m n f;obtain ⟨i,hi,rfl⟩:=List.mem_iff_getElem.1 m;obtain ⟨j,h,rfl⟩:=List.mem_iff_getElem.1 n;rw [List.pairwise_iff_getElem] at h4;rcases Nat.lt_trichotomy i j with q | q | q
  ·exact Or.inl (h4 i j hi h q)
  ·subst q;exact absurd rfl f
  ·exact Or.inr (h4 j i h hi q)
 refine eq_of_up (r:=fun x y=>ltE x y=true) ltE_irr ltE_tr A C ?_ h4 c;have k:A.Nodup:=hp.nodup_iff.2 d
 exact (List.pairwise_and_iff.2 ⟨h2,k⟩).imp_of_mem fun l hb q=>by
  rcases g _ _ ((c _).1 l) ((c _).1 hb) q.2 with e | e
  ·exact e
  ·rw [q.1] at e
   cases e
theorem bro_bd {m:M6} (f:mapM m=true) (h:(0≤e.1∧e.1≤20)∧(0≤e.2.1∧e.2.1≤20)∧(0≤e.2.2.1∧e.2.2.1≤20)∧(0≤e.2.2.2∧e.2.2.2≤20)):(-4000000≤(bro m e).1∧(bro m e).1≤4000000)∧(-4000000≤(bro m e).2.1∧(bro m e).2.1≤4000000):=by
 obtain ⟨a,b,c,d,u,v⟩:=m;obtain ⟨p,q,r,s⟩:=e;obtain ⟨_,i,hv⟩:=map_smM f;have g:=map_kinds f;dsimp only at h;unfold bro mpX mpY;dsimp only;rcases g with ⟨h1 | h1,rfl,rfl,h2 | h2⟩ | ⟨rfl,h1 | h1,h2 | h2,rfl⟩ <;> subst h1 <;> subst h2 <;> split <;> refine ⟨⟨?_, ?_⟩, ?_, ?_⟩ <;> dsimp only <;> omega
end Go.Proofs.YtjkjpopghkeibaaGreatDoor
