/- A part of it. -/
import Derived.Test.YtjkjpopghkeibaaGreatDoorQlaz
set_option maxRecDepth 100000
set_option maxHeartbeats 40000000
namespace Go.Proofs.YtjkjpopghkeibaaGreatDoor
open Go.RowKit
variable {w:World} {N a c d i n r:Nat} {v:Value} {kd:E4→Int} {M:Nat→M6} {pl:List T3}
def clN (R:Nat→Bool):Nat→List Nat
 | 0=>[]
 | i+1=>clN R i ++ if R i then [i+1] else []
theorem Ug (R:Nat→Bool):∀ i,(clN R i).length≤i
 | 0=>Nr _
 | i+1=>by
  have:=Ug R i;unfold clN;rw [List.length_append];split <;> simp <;> omega
structure RB (w wx:World) (g b1 d1 b2 d2 b3 d3:Nat) (a0 a1 a2 a3:Option Addr) (m0 c0 m1 c1 m2 c2 m3 c3:Nat):Prop where
 k0:At wx g 0 (I 1)
 f0:At wx g 1 (.func (.func 105) #[.agg #[.slice a0 m0 c0,.slice a1 m1 c1,.slice a2 m2 c2,.slice a3 m3 c3]] #[])
 k1:At wx g 2 (I 2)
 f1:At wx g 3 (.func (.func 144) #[] #[.pointer (Az d1),.pointer (Az b1)])
 x1:MBx wx b1 a0 a1 a2 a3 m0 c0 m1 c1 m2 c2 m3 c3
 y1:At wx d1 0 (.func (.func 107) #[] #[])
 k2:At wx g 4 (I 3)
 f2:At wx g 5 (.func (.func 144) #[] #[.pointer (Az d2),.pointer (Az b2)])
 x2:MBx wx b2 a0 a1 a2 a3 m0 c0 m1 c1 m2 c2 m3 c3
 y2:At wx d2 0 (.func (.func 108) #[] #[])
 k3:At wx g 6 (I 4)
 f3:At wx g 7 (.func (.func 144) #[] #[.pointer (Az d3),.pointer (Az b3)])
 x3:MBx wx b3 a0 a1 a2 a3 m0 c0 m1 c1 m2 c2 m3 c3
 y3:At wx d3 0 (.func (.func 109) #[] #[])
 bl:Bl w wx
theorem own_leR {base base' e k:Nat} {c:List Value} (h:w.ownsRow base e k v n c) (hb:base'≤base):w.ownsRow base' e k v n c:=by
 obtain ⟨hl,h0 | ⟨g,a,b,hv,h1,h2⟩⟩:=h
 ·exact ⟨hl,Or.inl h0⟩
 ·exact ⟨hl,Or.inr ⟨g,a,b,hv,Nt hb h1,h2⟩⟩
theorem clashes_any (w:World) (A:Nat) (a0 a1 J a3:Option Addr) (K c0 L c1 M c2 N c3:Nat) (R:Nat→Bool) (Q W T X U Y:Bool) (e1:R 1=(Q || W)) (e2:R 2=(T || X)) (e3:R 3=(U || Y))
  (C0:Hid (∀ V:World,Bl w V→Rt 105 #[.agg #[.slice a0 K c0,.slice a1 L c1,.slice J M c2,.slice a3 N c3],ABv A] V (.bool (R 0))))
  (C:Hid (∀ V:World,Bl w V→Rt 107 #[.agg #[.slice a0 K c0,.slice a1 L c1],ABv A] V (.bool Q)))
  (F:Hid (∀ V:World,Bl w V→Rt 107 #[.agg #[.slice J M c2,.slice a3 N c3],ABv A] V (.bool W)))
  (D:Hid (∀ V:World,Bl w V→Rt 108 #[.agg #[.slice a0 K c0,.slice a1 L c1],ABv A] V (.bool T)))
  (G:Hid (∀ V:World,Bl w V→Rt 108 #[.agg #[.slice J M c2,.slice a3 N c3],ABv A] V (.bool X)))
  (E:Hid (∀ V:World,Bl w V→Rt 109 #[.agg #[.slice a0 K c0,.slice a1 L c1],ABv A] V (.bool U)))
  (H:Hid (∀ V:World,Bl w V→Rt 109 #[.agg #[.slice J M c2,.slice a3 N c3],ABv A] V (.bool Y)))
  :
  Cl 56 #[.agg #[.slice a0 K c0,.slice a1 L c1,.slice J M c2,.slice a3 N c3],ABv A] w fun e w'=>∃ a c,e=.returned (.slice a (clN R 4).length c)∧w'.ownsRow w.heap.size 3 1 (.slice a (clN R 4).length c) (clN R 4).length (nV (clN R 4))∧Bl w w':=by
 obtain ⟨i3,ad,a6,a7,a8⟩:=info_parts inf3;have y:=H4 ad a6 a7 a8;have x:=H3 e1 e2 e3;clear ad a6 a7 a8 e1 e2 e3;have ag:=Jf;unfold ABv at C0 C F D G E H ⊢;go_enter Tryz.func56,Tryz.ntmps56;go_upto_region 2 with fail
 go_cut [20,21,22] (fun ae af aa wx=>∃ g b1 d1 b2 d2 b3 d3:Nat,ae=.slice (Az g) 4 4∧af=I 4∧aa=I 0∧RB w wx g b1 d1 b2 d2 b3 d3 a0 a1 J a3 K c0 L c1 M c2 N c3)
 case first =>
  clear C0 C F D G E H x y
  go_region_held3 (fun w'=>At w' w.heap.size 0 (.slice a0 K c0)∧At w' w.heap.size 1 (.slice a1 L c1)∧At w' w.heap.size 2 (.slice J M c2)∧At w' w.heap.size 3 (.slice a3 N c3))
   (simp [go_sem,Ca])
   (first | (go_at_call 106;(with_reducible refine (Qay _ _ _ _ _ _ _ _ _ _ _ _ _).mono ?_);rintro e w2 ⟨rfl,rfl⟩) | (go_at_call 106;(with_reducible refine (Qax _ _ _ _ _ _ _ _ _ _ _ _ _).mono ?_);rintro e w2 ⟨rfl,rfl⟩) | (go_at_call 106;(with_reducible refine (Qaw _ _ _ _ _ _ _ _ _ _ _ _ _).mono ?_);rintro e w2 ⟨rfl,rfl⟩) | fail)
  all_goals
   go_wp2;go_meet
   case rel =>
    first | (refine ⟨_,w.heap.size+1,w.heap.size+1+1,w.heap.size+1+1+1,w.heap.size+1+1+1+1,w.heap.size+1+1+1+1+1,w.heap.size+1+1+1+1+1+1,rfl,rfl,rfl, ?_⟩;(constructor <;> first | (simp [go_sem,Ca];done) | (refine ⟨?_, ?_, ?_, ?_⟩ <;> (simp [go_sem,Ca];done)) | ((with_reducible repeat' (first | exact Qe _ | refine Qb ?_ | refine Qg ?_ | refine Qh ?_ ?_)) <;> (first | omega | (simp;done) | (simp;omega))))) | (refine ⟨_,w.heap.size+1,w.heap.size+1+1,w.heap.size+1+1+1+1+1,w.heap.size+1+1+1+1+1+1,w.heap.size+1+1+1,w.heap.size+1+1+1+1,rfl,rfl,rfl, ?_⟩;(constructor <;> first | (simp [go_sem,Ca];done) | (refine ⟨?_, ?_, ?_, ?_⟩ <;> (simp [go_sem,Ca];done)) | ((with_reducible repeat' (first | exact Qe _ | refine Qb ?_ | refine Qg ?_ | refine Qh ?_ ?_)) <;> (first | omega | (simp;done) | (simp;omega))))) | (refine ⟨_,w.heap.size+1+1+1,w.heap.size+1+1+1+1,w.heap.size+1,w.heap.size+1+1,w.heap.size+1+1+1+1+1,w.heap.size+1+1+1+1+1+1,rfl,rfl,rfl, ?_⟩;(constructor <;> first | (simp [go_sem,Ca];done) | (refine ⟨?_, ?_, ?_, ?_⟩ <;> (simp [go_sem,Ca];done)) | ((with_reducible repeat' (first | exact Qe _ | refine Qb ?_ | refine Qg ?_ | refine Qh ?_ ?_)) <;> (first | omega | (simp;done) | (simp;omega))))) | (refine ⟨_,w.heap.size+1+1+1,w.heap.size+1+1+1+1,w.heap.size+1+1+1+1+1,w.heap.size+1+1+1+1+1+1,w.heap.size+1,w.heap.size+1+1,rfl,rfl,rfl, ?_⟩;(constructor <;> first | (simp [go_sem,Ca];done) | (refine ⟨?_, ?_, ?_, ?_⟩ <;> (simp [go_sem,Ca];done)) | ((with_reducible repeat' (first | exact Qe _ | refine Qb ?_ | refine Qg ?_ | refine Qh ?_ ?_)) <;> (first | omega | (simp;done) | (simp;omega))))) | (refine ⟨_,w.heap.size+1+1+1+1+1,w.heap.size+1+1+1+1+1+1,w.heap.size+1,w.heap.size+1+1,w.heap.size+1+1+1,w.heap.size+1+1+1+1,rfl,rfl,rfl, ?_⟩;(constructor <;> first | (simp [go_sem,Ca];done) | (refine ⟨?_, ?_, ?_, ?_⟩ <;> (simp [go_sem,Ca];done)) | ((with_reducible repeat' (first | exact Qe _ | refine Qb ?_ | refine Qg ?_ | refine Qh ?_ ?_)) <;> (first | omega | (simp;done) | (simp;omega))))) | (refine ⟨_,w.heap.size+1+1+1+1+1,w.heap.size+1+1+1+1+1+1,w.heap.size+1+1+1,w.heap.size+1+1+1+1,w.heap.size+1,w.heap.size+1+1,rfl,rfl,rfl, ?_⟩;(constructor <;> first | (simp [go_sem,Ca];done) | (refine ⟨?_, ?_, ?_, ?_⟩ <;> (simp [go_sem,Ca];done)) | ((with_reducible repeat' (first | exact Qe _ | refine Qb ?_ | refine Qg ?_ | refine Qh ?_ ?_)) <;> (first | omega | (simp;done) | (simp;omega)))))
 case rest =>
  obtain ⟨g,b1,d1,b2,d2,b3,d3,rfl,rfl,rfl,hW⟩:=hcut;have m:=Hd hW;have zg:=Bt hW.k0;have zw:w.heap.size≤wc.heap.size:=hW.bl.size;have E0:Hid (∀ V:World,Bl wc V→Rt 105 #[.agg #[.slice a0 K c0,.slice a1 L c1,.slice J M c2,.slice a3 N c3],.func (.func 90) #[] #[.pointer (Az A)]] V (.bool (R 0))):=fun V o=>C0.out V (Qc m.out.bl o)
  have E1:Hid (∀ V:World,Bl wc V→Rt 144 #[.func (.func 90) #[] #[.pointer (Az A)],.pointer (Az d1),.pointer (Az b1)] V (.bool (R 1))):=fun V o=>by
   have:=either104_any V d1 b1 A a0 a1 J a3 K c0 L c1 M c2 N c3 Q W (Qa o m.out.y1) ⟨Qa o m.out.x1.1,Qa o m.out.x1.2.1,Qa o m.out.x1.2.2.1,Qa o m.out.x1.2.2.2⟩ (fun O t=>C.out O (Qc (Qc m.out.bl o) t)) (fun O t=>F.out O (Qc (Qc m.out.bl o) t));rw [x.out.1];exact this
  have E2:Hid (∀ V:World,Bl wc V→Rt 144 #[.func (.func 90) #[] #[.pointer (Az A)],.pointer (Az d2),.pointer (Az b2)] V (.bool (R 2))):=fun V o=>by
   have:=either105_any V d2 b2 A a0 a1 J a3 K c0 L c1 M c2 N c3 T X (Qa o m.out.y2) ⟨Qa o m.out.x2.1,Qa o m.out.x2.2.1,Qa o m.out.x2.2.2.1,Qa o m.out.x2.2.2.2⟩ (fun O t=>D.out O (Qc (Qc m.out.bl o) t)) (fun O t=>G.out O (Qc (Qc m.out.bl o) t));rw [x.out.2.1];exact this
  have E3:Hid (∀ V:World,Bl wc V→Rt 144 #[.func (.func 90) #[] #[.pointer (Az A)],.pointer (Az d3),.pointer (Az b3)] V (.bool (R 3))):=fun V o=>by
   have:=either106_any V d3 b3 A a0 a1 J a3 K c0 L c1 M c2 N c3 U Y (Qa o m.out.y3) ⟨Qa o m.out.x3.1,Qa o m.out.x3.2.1,Qa o m.out.x3.2.2.1,Qa o m.out.x3.2.2.2⟩ (fun O t=>E.out O (Qc (Qc m.out.bl o) t)) (fun O t=>H.out O (Qc (Qc m.out.bl o) t));rw [x.out.2.2];exact this
  clear hW C0 C F D G E H x;go_wp2;go_loopg [5,22] 4 (fun gk s5 aa wx=>∃ (i:Nat) (u:Value),i≤4∧gk=4 - i∧u=s5∧aa=I (i:Int)∧wx.ownsRow wc.heap.size 3 1 u (clN R i).length (nV (clN R i))∧Bl wc wx)
  case atStart=>exact ⟨0,_,γ,rfl,rfl,rfl,World.ownsRow_nil _ _ _ _,Qe _⟩
  case round =>
   obtain ⟨i,u,hi,rfl,rfl,hs,hO,hB⟩:=hrel;have p:=H2 hO hB;have zr:wc.heap.size≤wr.heap.size:=hB.size;clear hO hB;rcases (show i=0∨i=1∨i=2∨i=3∨i=4 by omega) with rfl | rfl | rfl | rfl | rfl
   ·replace hs:_=I 0:=hs;subst hs;have k0:=Qa p.out.2 m.out.k0;have k1:=Qa p.out.2 m.out.f0;have ac:g<wr.heap.size:=γ;have x:Hid (clN R (0+1)=clN R 0 ++ if R 0 then [0+1] else []):=rfl;have P:=Ug R 0;go_upto_region 5 with fail
    refine Qi (fun z j=>?_);have v0:At z wr.heap.size 0 (I 1):=by rw [j];simp [go_sem]
    have v1:At z wr.heap.size 1 (.func (.func 105) #[.agg #[.slice a0 K c0,.slice a1 L c1,.slice J M c2,.slice a3 N c3]] #[]):=by rw [j];simp [go_sem]
    have n:Bl wr z:=by
     rw [j];(with_reducible repeat' (first | exact Qe _ | refine Qb ?_ | refine Qg ?_ | refine Qh ?_ ?_)) <;> (first | omega | (simp;done) | (simp;omega))
    have f:=H2 (Qj p.out.1 n) (Qc p.out.2 n);have z5:=Bt v0;clear j n k0 k1 p;generalize hr:R 0=r at x E0
    cases r
    ·go_wp2_with (go_at_call 105;(with_reducible refine (E0.out _ f.out.2).mono ?_);rintro e B ⟨rfl,b⟩;have d:=H2 (Qj f.out.1 b) (Qc f.out.2 b);clear b)
     go_roundg (4 - (0+1))
     case measure=>omega
     case rel =>
      refine ⟨0+1,_,γ,rfl,rfl,rfl, ?_,d.out.2⟩;have e:clN R (0+1)=clN R 0:=by rw [x.out];simp
      rw [e];exact d.out.1
    ·go_wp2_with (first
      | (go_at_call 105;(with_reducible refine (E0.out _ f.out.2).mono ?_);rintro e B ⟨rfl,b⟩;have ab:=Qa b v0;have z6:=b.size;have d:=H2 (Qj f.out.1 b) (Qc f.out.2 b);clear b)
      | (at_builtin;refine wpList_append_own _ rfl (.tmp 30) (.tmp 33) 22 rfl wc.heap.size 3 i3 (I 0) 1 8 Tryz.underlying22 y.out.1 y.out.2.1 y.out.2.2.1 y.out.2.2.2 rfl ψ u (clN R 0).length (nV (clN R 0)) rfl (Qj d.out.1 β1) ⟨B.heap.size,0,none⟩ 1 1 [I 1] rfl rfl (Yc B _ _) (by intro q hq;simp at hq;subst hq;rfl) Ξ γ ω ?grow))
     case grow =>
      intro u' Z l h _
      have s:Hid (Z.ownsRow wc.heap.size 3 1 u' (clN R (0+1)).length (nV (clN R (0+1)))∧Bl wc Z):=by
       refine ⟨?_, ?_⟩
       ·rw [x.out,if_pos trivial,Vs,List.length_append];exact l
       ·exact (Qb d.out.2).grown h (Qb d.out.2).size (fun k hk=>Qw d.out.1 k hk)
      clear l h;go_wp2;go_roundg (4 - (0+1))
      case measure=>omega
      case rel=>exact ⟨0+1,_,γ,rfl,rfl,rfl,s.out.1,s.out.2⟩
   ·replace hs:_=I 1:=hs;subst hs;have k0:=Qa p.out.2 m.out.k1;have k1:=Qa p.out.2 m.out.f1;have ac:g<wr.heap.size:=γ;have x:Hid (clN R (1+1)=clN R 1 ++ if R 1 then [1+1] else []):=rfl;have P:=Ug R 1;go_upto_region 5 with fail
    refine Qi (fun z j=>?_);have v0:At z wr.heap.size 0 (I 2):=by rw [j];simp [go_sem]
    have v1:At z wr.heap.size 1 (.func (.func 144) #[] #[.pointer (Az d1),.pointer (Az b1)]):=by rw [j];simp [go_sem]
    have n:Bl wr z:=by
     rw [j];(with_reducible repeat' (first | exact Qe _ | refine Qb ?_ | refine Qg ?_ | refine Qh ?_ ?_)) <;> (first | omega | (simp;done) | (simp;omega))
    have f:=H2 (Qj p.out.1 n) (Qc p.out.2 n);have z5:=Bt v0;clear j n k0 k1 p;generalize hr:R 1=r at x E1
    cases r
    ·go_wp2_with (go_at_call 144;(with_reducible refine (E1.out _ f.out.2).mono ?_);rintro e B ⟨rfl,b⟩;have d:=H2 (Qj f.out.1 b) (Qc f.out.2 b);clear b)
     go_roundg (4 - (1+1))
     case measure=>omega
     case rel =>
      refine ⟨1+1,_,γ,rfl,rfl,rfl, ?_,d.out.2⟩;have e:clN R (1+1)=clN R 1:=by rw [x.out];simp
      rw [e];exact d.out.1
    ·go_wp2_with (first
      | (go_at_call 144;(with_reducible refine (E1.out _ f.out.2).mono ?_);rintro e B ⟨rfl,b⟩;have ab:=Qa b v0;have z6:=b.size;have d:=H2 (Qj f.out.1 b) (Qc f.out.2 b);clear b)
      | (at_builtin;refine wpList_append_own _ rfl (.tmp 30) (.tmp 33) 22 rfl wc.heap.size 3 i3 (I 0) 1 8 Tryz.underlying22 y.out.1 y.out.2.1 y.out.2.2.1 y.out.2.2.2 rfl ψ u (clN R 1).length (nV (clN R 1)) rfl (Qj d.out.1 β1) ⟨B.heap.size,0,none⟩ 1 1 [I 2] rfl rfl (Yc B _ _) (by intro q hq;simp at hq;subst hq;rfl) Ξ γ ω ?grow))
     case grow =>
      intro u' Z l h _
      have s:Hid (Z.ownsRow wc.heap.size 3 1 u' (clN R (1+1)).length (nV (clN R (1+1)))∧Bl wc Z):=by
       refine ⟨?_, ?_⟩
       ·rw [x.out,if_pos trivial,Vs,List.length_append];exact l
       ·exact (Qb d.out.2).grown h (Qb d.out.2).size (fun k hk=>Qw d.out.1 k hk)
      clear l h;go_wp2;go_roundg (4 - (1+1))
      case measure=>omega
      case rel=>exact ⟨1+1,_,γ,rfl,rfl,rfl,s.out.1,s.out.2⟩
   ·replace hs:_=I 2:=hs;subst hs;have k0:=Qa p.out.2 m.out.k2;have k1:=Qa p.out.2 m.out.f2;have ac:g<wr.heap.size:=γ;have x:Hid (clN R (2+1)=clN R 2 ++ if R 2 then [2+1] else []):=rfl;have P:=Ug R 2;go_upto_region 5 with fail
    refine Qi (fun z j=>?_);have v0:At z wr.heap.size 0 (I 3):=by rw [j];simp [go_sem]
    have v1:At z wr.heap.size 1 (.func (.func 144) #[] #[.pointer (Az d2),.pointer (Az b2)]):=by rw [j];simp [go_sem]
    have n:Bl wr z:=by
     rw [j];(with_reducible repeat' (first | exact Qe _ | refine Qb ?_ | refine Qg ?_ | refine Qh ?_ ?_)) <;> (first | omega | (simp;done) | (simp;omega))
    have f:=H2 (Qj p.out.1 n) (Qc p.out.2 n);have z5:=Bt v0;clear j n k0 k1 p;generalize hr:R 2=r at x E2
    cases r
    ·go_wp2_with (go_at_call 144;(with_reducible refine (E2.out _ f.out.2).mono ?_);rintro e B ⟨rfl,b⟩;have d:=H2 (Qj f.out.1 b) (Qc f.out.2 b);clear b)
     go_roundg (4 - (2+1))
     case measure=>omega
     case rel =>
      refine ⟨2+1,_,γ,rfl,rfl,rfl, ?_,d.out.2⟩;have e:clN R (2+1)=clN R 2:=by rw [x.out];simp
      rw [e];exact d.out.1
    ·go_wp2_with (first
      | (go_at_call 144;(with_reducible refine (E2.out _ f.out.2).mono ?_);rintro e B ⟨rfl,b⟩;have ab:=Qa b v0;have z6:=b.size;have d:=H2 (Qj f.out.1 b) (Qc f.out.2 b);clear b)
      | (at_builtin;refine wpList_append_own _ rfl (.tmp 30) (.tmp 33) 22 rfl wc.heap.size 3 i3 (I 0) 1 8 Tryz.underlying22 y.out.1 y.out.2.1 y.out.2.2.1 y.out.2.2.2 rfl ψ u (clN R 2).length (nV (clN R 2)) rfl (Qj d.out.1 β1) ⟨B.heap.size,0,none⟩ 1 1 [I 3] rfl rfl (Yc B _ _) (by intro q hq;simp at hq;subst hq;rfl) Ξ γ ω ?grow))
     case grow =>
      intro u' Z l h _
      have s:Hid (Z.ownsRow wc.heap.size 3 1 u' (clN R (2+1)).length (nV (clN R (2+1)))∧Bl wc Z):=by
       refine ⟨?_, ?_⟩
       ·rw [x.out,if_pos trivial,Vs,List.length_append];exact l
       ·exact (Qb d.out.2).grown h (Qb d.out.2).size (fun k hk=>Qw d.out.1 k hk)
      clear l h;go_wp2;go_roundg (4 - (2+1))
      case measure=>omega
      case rel=>exact ⟨2+1,_,γ,rfl,rfl,rfl,s.out.1,s.out.2⟩
   ·replace hs:_=I 3:=hs;subst hs;have k0:=Qa p.out.2 m.out.k3;have k1:=Qa p.out.2 m.out.f3;have ac:g<wr.heap.size:=γ;have x:Hid (clN R (3+1)=clN R 3 ++ if R 3 then [3+1] else []):=rfl;have P:=Ug R 3;go_upto_region 5 with fail
    refine Qi (fun z j=>?_);have v0:At z wr.heap.size 0 (I 4):=by rw [j];simp [go_sem]
    have v1:At z wr.heap.size 1 (.func (.func 144) #[] #[.pointer (Az d3),.pointer (Az b3)]):=by rw [j];simp [go_sem]
    have n:Bl wr z:=by
     rw [j];(with_reducible repeat' (first | exact Qe _ | refine Qb ?_ | refine Qg ?_ | refine Qh ?_ ?_)) <;> (first | omega | (simp;done) | (simp;omega))
    have f:=H2 (Qj p.out.1 n) (Qc p.out.2 n);have z5:=Bt v0;clear j n k0 k1 p;generalize hr:R 3=r at x E3
    cases r
    ·go_wp2_with (go_at_call 144;(with_reducible refine (E3.out _ f.out.2).mono ?_);rintro e B ⟨rfl,b⟩;have d:=H2 (Qj f.out.1 b) (Qc f.out.2 b);clear b)
     go_roundg (4 - (3+1))
     case measure=>omega
     case rel =>
      refine ⟨3+1,_,γ,rfl,rfl,rfl, ?_,d.out.2⟩;have e:clN R (3+1)=clN R 3:=by rw [x.out];simp
      rw [e];exact d.out.1
    ·go_wp2_with (first
      | (go_at_call 144;(with_reducible refine (E3.out _ f.out.2).mono ?_);rintro e B ⟨rfl,b⟩;have ab:=Qa b v0;have z6:=b.size;have d:=H2 (Qj f.out.1 b) (Qc f.out.2 b);clear b)
      | (at_builtin;refine wpList_append_own _ rfl (.tmp 30) (.tmp 33) 22 rfl wc.heap.size 3 i3 (I 0) 1 8 Tryz.underlying22 y.out.1 y.out.2.1 y.out.2.2.1 y.out.2.2.2 rfl ψ u (clN R 3).length (nV (clN R 3)) rfl (Qj d.out.1 β1) ⟨B.heap.size,0,none⟩ 1 1 [I 4] rfl rfl (Yc B _ _) (by intro q hq;simp at hq;subst hq;rfl) Ξ γ ω ?grow))
     case grow =>
      intro u' Z l h _
      have s:Hid (Z.ownsRow wc.heap.size 3 1 u' (clN R (3+1)).length (nV (clN R (3+1)))∧Bl wc Z):=by
       refine ⟨?_, ?_⟩
       ·rw [x.out,if_pos trivial,Vs,List.length_append];exact l
       ·exact (Qb d.out.2).grown h (Qb d.out.2).size (fun k hk=>Qw d.out.1 k hk)
      clear l h;go_wp2;go_roundg (4 - (3+1))
      case measure=>omega
      case rel=>exact ⟨3+1,_,γ,rfl,rfl,rfl,s.out.1,s.out.2⟩
   ·replace hs:_=I 4:=hs;subst hs;obtain ⟨a,c,rfl,_⟩:=Xi p.out.1;go_wp2;exact bodyPost_ret (v:=.slice a (clN R 4).length c) (by simp [results,Tryz.results56,go_sem]) rfl ⟨a,c,rfl,own_leR p.out.1 m.out.bl.size,Qc m.out.bl p.out.2⟩
def rl (h:Nat→Int) (D:MD):Nat→Bool
 | 0=>twB h D.a0 D.a1
 | 1=>(D.b0.any fun p=>D.a0.any (arB h p)) || (D.b1.any fun p=>D.a1.any (arB h p))
 | 2=>tnB h D.b0 || tnB h D.b1
 | _=>(D.b0.any fun p=>decide (h p.2<h p.1)) || (D.b1.any fun p=>decide (h p.2<h p.1))
theorem Zb {base size:Nat} {e:TypeId} {d:List Value} (h:w.ownsRow base e size v n d):∃ a b,v=.slice a n b∧n≤b:=by
 rcases h.2 with ⟨e1,e2⟩ | ⟨g,b,c,hv,_,f,h1,h2,h3,h4⟩
 ·exact ⟨none,0,by rw [e1,e2],γ⟩
 ·exact ⟨_,b,hv,γ⟩
structure MdOk (D:MD) (N:Nat):Prop where
 eq:D.a0.length=D.a1.length
 l0:D.a0.length≤100000000
 l1:D.b0.length≤100000000
 l2:D.a1.length≤100000000
 l3:D.b1.length≤100000000
 n0:∀ i∈D.a0,i<N
 n1:∀ p∈D.b0,p.1<N∧p.2<N
 n2:∀ i∈D.a1,i<N
 n3:∀ p∈D.b1,p.1<N∧p.2<N
theorem meetClash_any (w:World) (base d N:Nat) (k l m n:Value) (D:MD) (h:Nat→Int) (f:Ow w base k l m n D) (i:Hg w d N h) (g:N≤300) (hD:MdOk D N) :
  Cl 56 #[.agg #[k,l,m,n],ABv d] w fun e w'=>∃ a c,e=.returned (.slice a (clN (rl h D) 4).length c)∧w'.ownsRow w.heap.size 3 1 (.slice a (clN (rl h D) 4).length c) (clN (rl h D) 4).length (nV (clN (rl h D) 4))∧Bl w w':=by
 obtain ⟨a0,c0,rfl,_⟩:=Zb f.o0;obtain ⟨a1,c1,rfl,k1⟩:=Zb f.o1;obtain ⟨j,c2,rfl,_⟩:=Zb f.o2;obtain ⟨a3,c3,rfl,k3⟩:=Zb f.o3;have r0:=own_irow f.o0;have r1:=own_frow f.o1;have r2:=own_irow f.o2;have r3:=own_frow f.o3;refine clashes_any w d a0 a1 j a3 _ c0 _ c1 _ c2 _ c3 (rl h D) _ _ _ _ _ _ rfl rfl rfl (fun V b=>?_) (fun V b=>Qao V d N _ c0 _ c1 a0 a1 D.a0 D.b0 h (i.kept b) (r0.kept b) rfl hD.l0 (r1.kept b) rfl hD.l1 hD.n0 hD.n1 g) (fun V b=>Qao V d N _ c2 _ c3 j a3 D.a1 D.b1 h (i.kept b) (r2.kept b) rfl hD.l2 (r3.kept b) rfl hD.l3 hD.n2 hD.n3 g) (fun V b=>Qal V d N _ c0 _ c1 a0 a1 D.b0 h (i.kept b) (r1.kept b) rfl hD.l1 k1 hD.n1 g) (fun V b=>Qal V d N _ c2 _ c3 j a3 D.b1 h (i.kept b) (r3.kept b) rfl hD.l3 k3 hD.n3 g) (fun V b=>Uj V d N _ c0 _ c1 a0 a1 D.b0 h (i.kept b) (r1.kept b) rfl hD.l1 hD.n1 g) (fun V b=>Uj V d N _ c2 _ c3 j a3 D.b1 h (i.kept b) (r3.kept b) rfl hD.l3 hD.n3 g);have:=twisted_any V d N D.a0.length c0 c2 D.b0.length c1 D.b1.length c3 a0 a1 j a3 D.a0 D.a1 h (i.kept b) (r0.kept b) (r2.kept b) rfl hD.eq hD.l0 hD.n0 hD.n2 g;rw [← hD.eq];exact this
theorem mem_clN (R:Nat→Bool) (k:Nat):∀ n,k∈clN R n↔∃ i,i<n∧R i=true∧k=i+1
 | 0=>by simp [clN]
 | n+1=>by
  unfold clN;rw [List.mem_append,mem_clN R k n];constructor
  ·rintro (⟨i,hi,h1,h2⟩ | h)
   ·exact ⟨i,γ,h1,h2⟩
   ·cases hR:R n
    ·rw [hR] at h;simp at h
    ·rw [hR] at h;simp at h;exact ⟨n,γ,hR,h⟩
  ·rintro ⟨i,hi,h1,h2⟩;by_cases e:i=n
   ·subst e;rw [h1];exact Or.inr (by simp [h2])
   ·exact Or.inl ⟨i,γ,h1,h2⟩
theorem clN_up (R:Nat→Bool):∀ n,(clN R n).Pairwise (· < ·)
 | 0=>List.Pairwise.nil
 | n+1=>by
  unfold clN;rw [List.pairwise_append];refine ⟨clN_up R n,by split <;> simp,fun a c b hb=>?_⟩;obtain ⟨i,hi,_,rfl⟩:=(mem_clN R a n).1 c;split at hb
  ·simp at hb;omega
  ·simp at hb
variable {n:Nat} {Cm:Nat→Nat→E4→Int→Prop} {P:Nat→T3} {tv:Nat→Bool} {h:Nat→Int} {E:E4} {D:MD}
theorem sd01 (E:E4) (t:T3):sd E t=0∨sd E t=1:=by
 have:=sd_le E t;omega
section
variable {kd:E4→Int} {L:List T3} {M:Nat→M6}
structure Geo (kd:E4→Int) (L:List T3) (M:Nat→M6):Prop where
 nd:L.Nodup
 bd:∀ t∈L,(0≤t.1∧t.1≤8)∧(0≤t.2.1∧t.2.1≤8)∧(0≤t.2.2∧t.2.2≤3)
 mm:MMs kd L M L.length
theorem Geo.map (g:Geo kd L M) (h:i<L.length):mapM (M i)=true:=(g.mm i h).1.1
theorem lv_at {P:Nat→T3} {S:List (T3×List T3)} {h:Nat→Int} (c:L.Nodup) (d:StOk L P S) (hl:Lv S L h S.length 0) (hi:i<L.length):∃ m k,∃ a:m<S.length,∃ b:k<S[m].2.length,S[m].2[k]=L[i]∧S[m].1=P i∧h i=(k:Int):=by
 have f:=d.cov c _ (Lm hi);unfold allS at f;obtain ⟨s,hs,g⟩:=List.mem_flatMap.1 f;obtain ⟨m,a,rfl⟩:=List.getElem_of_mem hs;obtain ⟨k,b,e⟩:=List.getElem_of_mem g;obtain ⟨j,h0,e0,e1⟩:=d.pl _ hs _ g;have:j=i:=Jj c h0 hi e0;subst this;exact ⟨m,k,a,b,e,e1.symm,hl j hi m k a b e (Or.inl a)⟩
end
structure MdIn (D:MD) (N:Nat):Prop where
 eq:D.a0.length=D.a1.length
 n0:∀ i∈D.a0,i<N
 n1:∀ p∈D.b0,p.1<N∧p.2<N
 n2:∀ i∈D.a1,i<N
 n3:∀ p∈D.b1,p.1<N∧p.2<N
theorem mdIn_zero (N:Nat):MdIn mdZ N:=⟨rfl,(fun i h=>by cases h),(fun i h=>by cases h),(fun i h=>by cases h),(fun i h=>by cases h)⟩
theorem Ks {l:List Nat} {j:Nat} (h:∀ i∈l,i<N) (a:j<N):∀ i∈l ++ [j],i<N:=fun i hi=>by
 rcases List.mem_append.1 hi with q | q
 ·exact h i q
 ·rw [List.mem_singleton.1 q];exact a
theorem mem_addP {l:List (Nat×Nat)} {f:Nat×Nat} (h:∀ p∈l,p.1<N∧p.2<N) (a:f.1<N∧f.2<N):∀ p∈l ++ [f],p.1<N∧p.2<N:=fun p hp=>by
 rcases List.mem_append.1 hp with q | q
 ·exact h p q
 ·rw [List.mem_singleton.1 q];exact a
theorem fdT_in {b:Nat} (kd:Int) (tv:Bool) (c:a<N) (hb:b<N):(fdT kd tv a b).1<N∧(fdT kd tv a b).2<N:=by
 unfold fdT;split
 ·exact ⟨hb,c⟩
 ·exact ⟨c,hb⟩
theorem MdIn.mt {D:MD} (h:MdIn D N) (kd:Int) (tv:Bool) (a:Nat) {j:Nat} (hi:i<N) (c:j<N):MdIn (mt D kd tv a i j) N:=by
 unfold Go.Proofs.YtjkjpopghkeibaaGreatDoor.mt mtO mtF;have b:=h.eq;split <;> split
 ·exact ⟨by simp [b],Ks h.n0 hi,h.n1,Ks h.n2 c,h.n3⟩
 ·exact ⟨by simp [b],Ks h.n0 c,h.n1,Ks h.n2 hi,h.n3⟩
 ·exact ⟨b,h.n0,mem_addP h.n1 (fdT_in _ _ hi c),h.n2,h.n3⟩
 ·exact ⟨b,h.n0,h.n1,h.n2,mem_addP h.n3 (fdT_in _ _ hi c)⟩
theorem stJ_in {G:E4→MD} (h:∀ e,MdIn (G e) N) (q:E4×Int) (hi:i<N) (hq:q.2<(N:Int)):∀ e,MdIn (stJ kd M pl i G q e) N:=fun e=>by
 unfold stJ;split
 ·dsimp only;split
  ·exact (h _).mt _ _ _ hi γ
  ·exact h e
 ·exact h e
theorem gJ_in (hi:i<N):∀ (l:List (E4×Int)) (G:E4→MD),(∀ q∈l,q.2<(N:Int))→(∀ e,MdIn (G e) N)→∀ e,MdIn (gJ kd M pl i G l e) N
 | [],_,_,h=>h
 | q :: l,G,hl,h=>gJ_in hi l (stJ kd M pl i G q) (fun p hp=>hl p (List.mem_cons_of_mem _ hp)) (stJ_in h q hi (hl q (List.mem_cons_self ..)))
theorem gA_in {L:List T3} (a:∀ i,i<N→∀ q∈jl L (L.getD i (0,0,0)) i 3,q.2<(N:Int)):∀ n,n≤N→∀ e,MdIn (gA kd L M pl n e) N
 | 0,_=>fun _=>mdIn_zero N
 | i+1,hn=>gJ_in γ _ _ (a i γ) (gA_in a i γ)
theorem MdIn.ok {D:MD} (h:MdIn D N) (hl:D.a0.length≤c∧D.b0.length≤c∧D.a1.length≤c∧D.b1.length≤c) (a:c≤100000000):MdOk D N :=
 ⟨h.eq,γ,γ,γ,γ,h.n0,h.n1,h.n2,h.n3⟩
def RO (kd:E4→Int) (M:Nat→M6) (pl:List T3) (E:E4) (x y:Nat) (i:Nat) (q:E4×Int):Prop:=(i:Int)<q.2∧E=bro (M i) q.1∧kd q.1=0∧(x,y)=if sd E (pl.getD i (0,0,0))=0 then (i,q.2.toNat) else (q.2.toNat,i)
def RF (kd:E4→Int) (M:Nat→M6) (pl:List T3) (s:Nat) (E:E4) (p:Nat×Nat) (i:Nat) (q:E4×Int):Prop:=(i:Int)<q.2∧E=bro (M i) q.1∧kd q.1≠0∧sd E (pl.getD i (0,0,0))=s∧p=fdT (kd q.1) (tov (M i)) i q.2.toNat
structure GIn (kd:E4→Int) (M:Nat→M6) (pl:List T3) (Ev:Nat→E4×Int→Prop) (G:E4→MD):Prop where
 len:∀ E,(G E).a0.length=(G E).a1.length
 on:∀ E x y,(x,y)∈(G E).a0.zip (G E).a1↔∃ i q,Ev i q∧RO kd M pl E x y i q
 f0:∀ E p,p∈(G E).b0↔∃ i q,Ev i q∧RF kd M pl 0 E p i q
 f1:∀ E p,p∈(G E).b1↔∃ i q,Ev i q∧RF kd M pl 1 E p i q
 n0:∀ E,(G E).b0.Nodup
 n1:∀ E,(G E).b1.Nodup
theorem Ge {c R:Nat→E4×Int→Prop} {q:E4×Int}:(∃ a b,(c a b∨(a=i∧b=q))∧R a b)↔(∃ a b,c a b∧R a b)∨R i q:=by
 constructor
 ·rintro ⟨a,b,h | ⟨rfl,rfl⟩,r⟩
  ·exact Or.inl ⟨a,b,h,r⟩
  ·exact Or.inr r
 ·rintro (⟨a,b,h,r⟩ | r)
  ·exact ⟨a,b,Or.inl h,r⟩
  ·exact ⟨i,q,Or.inr ⟨rfl,rfl⟩,r⟩
section
variable {kd:E4→Int} {L:List T3} {M:Nat→M6} {pl:List T3}
theorem nodup_snoc {α:Type} {l:List α} {a : α} (h:l.Nodup) (c:a ∉ l):(l ++ [a]).Nodup:=by
 rw [List.nodup_append]
 exact ⟨h,ξ,fun x d y b e=>by
  rw [List.mem_singleton] at b;subst b;exact c (e ▸ d)⟩
theorem GIn.step {v:Nat→E4×Int→Prop} {G:E4→MD} (h:GIn kd M pl v G) (i:Nat) (q:E4×Int)
  (j:∀ b c,v b c→(b:Int)<c.2→(i:Int)<q.2→bro (M i) q.1=bro (M b) c.1→fdT (kd q.1) (tov (M i)) i q.2.toNat=fdT (kd c.1) (tov (M b)) b c.2.toNat→False) :
  GIn kd M pl (fun b c=>v b c∨(b=i∧c=q)) (stJ kd M pl i G q):=by
 by_cases hl:(i:Int)<q.2
 ·have f:∀ E,E≠bro (M i) q.1→stJ kd M pl i G q E=G E:=fun E B=>by
   unfold stJ;rw [if_pos hl];exact if_neg B
  have hs:stJ kd M pl i G q (bro (M i) q.1)=mt (G (bro (M i) q.1)) (kd q.1) (tov (M i)) (sd (bro (M i) q.1) (pl.getD i (0,0,0))) i q.2.toNat:=by
   unfold stJ;rw [if_pos hl];exact if_pos rfl
  obtain ⟨s,g⟩:∃ s,s=sd (bro (M i) q.1) (pl.getD i (0,0,0)):=⟨_,rfl⟩;rw [← g] at hs;have d:s=0∨s=1:=by rw [g];exact sd01 _ _
  have A:∀ k,fdT (kd q.1) (tov (M i)) i q.2.toNat ∉ (if k=0 then (G (bro (M i) q.1)).b0 else (G (bro (M i) q.1)).b1):=fun k a=>by
   split at a
   ·obtain ⟨b,c,e,r1,r2,_,_,z⟩:=(h.f0 _ _).1 a;exact j b c e r1 hl r2 z
   ·obtain ⟨b,c,e,r1,r2,_,_,z⟩:=(h.f1 _ _).1 a;exact j b c e r1 hl r2 z
  by_cases hk:kd q.1=0
  ·
   have a:stJ kd M pl i G q (bro (M i) q.1)=if s=0 then ⟨(G (bro (M i) q.1)).a0 ++ [i],(G (bro (M i) q.1)).b0,(G (bro (M i) q.1)).a1 ++ [q.2.toNat],(G (bro (M i) q.1)).b1⟩ else ⟨(G (bro (M i) q.1)).a0 ++ [q.2.toNat],(G (bro (M i) q.1)).b0,(G (bro (M i) q.1)).a1 ++ [i],(G (bro (M i) q.1)).b1⟩:=by
    rw [hs];unfold mt mtO;rw [if_pos hk]
   have u:∀ s E p,¬ RF kd M pl s E p i q:=fun s E p r=>r.2.2.1 hk
   have l:∀ E,(stJ kd M pl i G q E).b0=(G E).b0:=fun E=>by
    by_cases e:E=bro (M i) q.1
    ·rw [e,a];split <;> rfl
    ·rw [f E e]
   have m:∀ E,(stJ kd M pl i G q E).b1=(G E).b1:=fun E=>by
    by_cases e:E=bro (M i) q.1
    ·rw [e,a];split <;> rfl
    ·rw [f E e]
   refine ⟨fun E=>?_,fun E x y=>?_,fun E p=>?_,fun E p=>?_,fun E=>by rw [l];exact h.n0 E,fun E=>by rw [m];exact h.n1 E⟩
   ·by_cases e:E=bro (M i) q.1
    ·rw [e,a];have:=h.len (bro (M i) q.1);split <;> simp [this]
    ·rw [f E e];exact h.len E
   ·rw [Ge,← h.on];by_cases e:E=bro (M i) q.1
    ·subst e;have n:=h.len (bro (M i) q.1)
     have o:RO kd M pl (bro (M i) q.1) x y i q↔(x,y)=if s=0 then (i,q.2.toNat) else (q.2.toNat,i):=by
      unfold RO;rw [← g];exact ⟨fun r=>r.2.2.2,fun r=>⟨hl,rfl,hk,r⟩⟩
     rw [o,a];rcases d with rfl | rfl
     ·rw [if_pos rfl,if_pos rfl];dsimp only;rw [List.zip_append n,List.mem_append];simp
     ·rw [if_neg γ,if_neg γ];dsimp only;rw [List.zip_append n,List.mem_append];simp
    ·rw [f E e];constructor
     ·exact Or.inl
     ·rintro (r | r)
      ·exact r
      ·exact absurd r.2.1 e
   ·rw [Ge,← h.f0,l];constructor
    ·exact Or.inl
    ·rintro (r | r)
     ·exact r
     ·exact absurd r (u _ _ _)
   ·rw [Ge,← h.f1,m];constructor
    ·exact Or.inl
    ·rintro (r | r)
     ·exact r
     ·exact absurd r (u _ _ _)
  ·
   have a:stJ kd M pl i G q (bro (M i) q.1)=if s=0 then ⟨(G (bro (M i) q.1)).a0,(G (bro (M i) q.1)).b0 ++ [fdT (kd q.1) (tov (M i)) i q.2.toNat],(G (bro (M i) q.1)).a1,(G (bro (M i) q.1)).b1⟩ else ⟨(G (bro (M i) q.1)).a0,(G (bro (M i) q.1)).b0,(G (bro (M i) q.1)).a1,(G (bro (M i) q.1)).b1 ++ [fdT (kd q.1) (tov (M i)) i q.2.toNat]⟩:=by
    rw [hs];unfold mt mtF;rw [if_neg hk]
   have u:∀ E x y,¬ RO kd M pl E x y i q:=fun E x y r=>hk r.2.2.1
   have t:∀ E,(stJ kd M pl i G q E).a0=(G E).a0∧(stJ kd M pl i G q E).a1=(G E).a1:=fun E=>by
    by_cases e:E=bro (M i) q.1
    ·rw [e,a];split <;> exact ⟨rfl,rfl⟩
    ·rw [f E e];exact ⟨rfl,rfl⟩
   have o:∀ k p,RF kd M pl k (bro (M i) q.1) p i q↔k=s∧p=fdT (kd q.1) (tov (M i)) i q.2.toNat:=fun k p=>by
    unfold RF;rw [← g];exact ⟨fun r=>⟨r.2.2.2.1.symm,r.2.2.2.2⟩,fun r=>⟨hl,rfl,hk,r.1.symm,r.2⟩⟩
   refine ⟨fun E=>by rw [(t E).1,(t E).2];exact h.len E,fun E x y=>?_,fun E p=>?_,fun E p=>?_,fun E=>?_,fun E=>?_⟩
   ·rw [Ge,← h.on,(t E).1,(t E).2];constructor
    ·exact Or.inl
    ·rintro (r | r)
     ·exact r
     ·exact absurd r (u _ _ _)
   ·rw [Ge,← h.f0];by_cases e:E=bro (M i) q.1
    ·subst e;rw [o,a];rcases d with rfl | rfl <;> simp
    ·rw [f E e];constructor
     ·exact Or.inl
     ·rintro (r | r)
      ·exact r
      ·exact absurd r.2.1 e
   ·rw [Ge,← h.f1];by_cases e:E=bro (M i) q.1
    ·subst e;rw [o,a];rcases d with rfl | rfl <;> simp
    ·rw [f E e];constructor
     ·exact Or.inl
     ·rintro (r | r)
      ·exact r
      ·exact absurd r.2.1 e
   ·by_cases e:E=bro (M i) q.1
    ·rw [e,a];split
     ·exact nodup_snoc (h.n0 _) (A 0)
     ·exact h.n0 _
    ·rw [f E e];exact h.n0 E
   ·by_cases e:E=bro (M i) q.1
    ·rw [e,a];split
     ·exact h.n1 _
     ·exact nodup_snoc (h.n1 _) (A 1)
    ·rw [f E e];exact h.n1 E
 ·have C:stJ kd M pl i G q=G:=by
   unfold stJ;rw [if_neg hl]
  rw [C];refine ⟨h.len,fun E x y=>?_,fun E p=>?_,fun E p=>?_,h.n0,h.n1⟩
  ·rw [Ge,← h.on];exact ⟨Or.inl,fun r=>r.elim id fun r=>absurd r.1 hl⟩
  ·rw [Ge,← h.f0];exact ⟨Or.inl,fun r=>r.elim id fun r=>absurd r.1 hl⟩
  ·rw [Ge,← h.f1];exact ⟨Or.inl,fun r=>r.elim id fun r=>absurd r.1 hl⟩
theorem jl_pos {t:T3} {q:E4×Int} (h:q∈jl L t i n):0≤q.2∧q.2<(L.length:Int):=by
 obtain ⟨e,j⟩:=q;obtain ⟨c,a,rfl,m,b,rfl,_⟩:=Yz.1 h;dsimp only;omega
end
open Go.ChangeMaps
theorem run_range_em {ls:EL} (h:EM w a ls c):(Instr.range 116 (.map (some a))).run Tryz.prog w=.ok (.pointer (Az w.heap.size)) (w.alloc (.mapIter (some a) c #[] c)):=by
 unfold EM at h;simp [Instr.range,run_underlying Tryz.underlying116,MapKept.run_getObj_map h,Result.andThen]
def kE (K:E4→List Nat) (e:E4) (m:Nat):List C5:=((K e).take m).map fun (k:Nat)=>(e,(k:Int))
theorem kE_zero (K:E4→List Nat) (e:E4):kE K e 0=[]:=by simp [kE]
theorem kE_succ (K:E4→List Nat) (e:E4) {m:Nat} (h:m<(K e).length):kE K e (m+1)=kE K e m ++ [(e,((K e)[m]:Int))]:=by
 unfold kE;rw [List.take_succ_eq_append_getElem h,List.map_append];rfl
theorem kE_len (K:E4→List Nat) (e:E4) (m:Nat):(kE K e m).length≤(K e).length:=by
 unfold kE;rw [List.length_map,List.length_take];exact Nat.min_le_right _ _
def kV (K:E4→List Nat) (vis:EL):List C5:=vis.flatMap fun x=>kE K x.1 (K x.1).length
theorem kV_add (K:E4→List Nat) (a:EL) (x:E4×Value×Nat):kV K (a ++ [x])=kV K a ++ kE K x.1 (K x.1).length:=by simp [kV]
theorem kV_len (K:E4→List Nat) (a:∀ e,(K e).length≤4):∀ vis:EL,(kV K vis).length≤vis.length*4
 | []=>by simp [kV]
 | x :: l=>by
  have b:=kV_len K a l;have h1:=kE_len K x.1 (K x.1).length;have h2:=a x.1;have:kV K (x :: l)=kE K x.1 (K x.1).length ++ kV K l:=by simp [kV]
  rw [this,List.length_append,List.length_cons];omega
theorem kV_mem (K:E4→List Nat) (a:EL) (y:C5):y∈kV K a↔∃ x∈a,∃ k∈K x.1,y=(x.1,(k:Int)):=by
 unfold kV kE;simp only [List.mem_flatMap,List.take_length,List.mem_map];constructor
 ·rintro ⟨x,c,k,b,rfl⟩;exact ⟨x,c,k,b,rfl⟩
 ·rintro ⟨x,c,k,b,rfl⟩;exact ⟨x,c,k,b,rfl⟩
theorem kV_nodup (K:E4→List Nat) (d:∀ e,(K e).Nodup):∀ vis:EL,(vis.map fun x=>x.1).Nodup→(kV K vis).Nodup
 | [],_=>by simp [kV]
 | x :: l,h=>by
  rw [List.map_cons,List.nodup_cons] at h;have:kV K (x :: l)=kE K x.1 (K x.1).length ++ kV K l:=by simp [kV]
  rw [this,List.nodup_append];refine ⟨?_,kV_nodup K d l h.2,fun a f b hb e=>?_⟩
  ·unfold kE;rw [List.take_length];refine List.pairwise_map.2 ((d x.1).imp fun {a b} c e=>c ?_);simp only [Prod.mk.injEq] at e;omega
  ·subst e;obtain ⟨y,g,k,_,rfl⟩:=(kV_mem K l a).1 hb;unfold kE at f;obtain ⟨i,_,e⟩:=List.mem_map.1 f;simp only [Prod.mk.injEq] at e;exact h.1 (List.mem_map.2 ⟨y,g,e.1.symm⟩)
structure CS (w wx:World) (rm r c:Nat) (ls:EL) (seen:List Nat) (v:Value) (A:List C5):Prop where
 em:EM wx rm ls c
 it:wx.heap[r]?=some (.mapIter (some rm) c seen.toArray c)
 own:wx.ownsRow (r+1) 125 5 v A.length (flatJ A)
 b:Bl w wx
 lo:w.heap.size≤r
 hr:rm<w.heap.size
theorem CS.lt {b:World} {ls:EL} {a:List Nat} {A:List C5} (h:CS w b d r c ls a v A):r<b.heap.size:=(Array.getElem?_eq_some_iff.1 h.it).1
theorem EM.keptB {b:World} {ls:EL} (h:EM w a ls c) (hb:Bl w b):EM b a ls c:=(hb.block a (Array.getElem?_eq_some_iff.1 h).1).trans h
theorem CS.kept {e w':World} {ls:EL} {a:List Nat} {A:List C5} (h:CS w e d r c ls a v A) (hb:Bl e w'):CS w w' d r c ls a v A :=
 ⟨h.em.keptB hb,(hb.block r h.lt).trans h.it,Qj h.own hb,Qc h.b hb,h.lo,h.hr⟩
theorem CS.next {e w':World} {x:Nat} {ls:EL} {a:List Nat} {A:List C5} (h:CS w e d r c ls a v A) (hs:StepE e w' d r c ls a x):CS w w' d r c ls (a ++ [x]) v A:=by
 obtain ⟨g,hi,hg⟩:=hs;refine ⟨g,hi,h.own.kept hg ?_,h.b.grown hg h.b.size (fun k f=>by have:=h.lo;simp at f;omega),h.lo,h.hr⟩
 cases e2:v.ownBlock with
 | none=>exact Or.inl rfl
 | some q =>
  refine Or.inr (fun e1=>?_);have:=Qw h.own q e2;simp at e1;omega
theorem CS.more {j i:World} {ls:EL} {a:List Nat} {v':Value} {A:List C5} {x:C5} (h:CS w j d r c ls a v A) (hg:j.grownBy i v.ownBlock) (k:i.ownsRow (r+1) 125 5 v' (A.length+1) (flatJ A ++ flatJ [x])):CS w i d r c ls a v' (A ++ [x]):=by
 have hb:∀ q,v.ownBlock=some q→r<q:=fun q hq=>by
  have:=Qw h.own q hq;omega
 have f:some d≠v.ownBlock:=fun e=>by
  have:=hb d e.symm;have:=h.hr;have:=h.lo;omega
 have g:some r≠v.ownBlock:=fun e=>by
  have:=hb r e.symm;omega
 refine ⟨(hg.block d (Array.getElem?_eq_some_iff.1 h.em).1 f).trans h.em,(hg.block r h.lt g).trans h.it, ?_,h.b.grown hg h.b.size (fun q hq=>by have:=hb q hq;have:=h.lo;omega),h.lo,h.hr⟩;rw [List.length_append,Yg];exact k
theorem CS.start {ls:EL} (h:EM w a ls c):CS w (w.alloc (.mapIter (some a) c #[] c)) a w.heap.size c ls [] SN [] :=
 ⟨h.keptB β1,heap_alloc_new w _,⟨rfl,Or.inl ⟨rfl,rfl⟩⟩,Qb (Qe _),Nr _,(Array.getElem?_eq_some_iff.1 h).1⟩
theorem clashes_ok (W H:Int) (a0 c0 mp sp:Option Addr) (zl bg n ah mn mc sl sc:Nat) (kd:E4→Int) (L:List T3) (M:Nat→M6) (h:Nat→Int) (w:World)
  (b5:Hid (∀ V:World,Bl w V→Cl 16 #[.agg #[I W,I H,.slice a0 zl bg,.slice c0 n ah,.slice mp mn mc,.slice sp sl sc]] V fun e w'=>∃ ad k ra rk gm cm pa pc bf,e=.returned (.tuple #[.agg #[.slice ad L.length k,.map (some ra),.map (some rk),.slice (Az gm) L.length cm,.slice pa L.length pc],ABv bf,.bool true])∧PileAt w' ad k ra rk gm cm pa pc L kd M∧Hg w' bf L.length h∧Bl V w'))
  (hs:Steps w) (hL:L.length≤300) (bn:∀ t∈L,(0≤t.1∧t.1≤8)∧(0≤t.2.1∧t.2.1≤8)∧(0≤t.2.2∧t.2.2≤3)) (bh:∀ i,i<L.length→MOk1 L M i) (bi:∀ E,MdOk (gA kd L M (pls L M L.length) L.length E) L.length) :
  Cl 24 #[.agg #[I W,I H,.slice a0 zl bg,.slice c0 n ah,.slice mp mn mc,.slice sp sl sc]] w fun e w'=>∃ a c C,e=.returned (.tuple #[.slice a (List.length C) c,I 0])∧JRow w' a C∧C.Pairwise (fun x y=>ltC x y=true)∧(∀ y,y∈C↔∃ e k,k∈clN (rl h (gA kd L M (pls L M L.length) L.length e)) 4∧y=(e,(k:Int)))∧Bl w w':=by
 obtain ⟨G,hG⟩:∃ G,G=gA kd L M (pls L M L.length) L.length:=⟨_,rfl⟩;obtain ⟨K,a2⟩:∃ K:E4→List Nat,K=fun e=>clN (rl h (G e)) 4:=⟨_,rfl⟩
 have HK:Hid ((∀ e,(K e).length≤4)∧(∀ e,(K e).Nodup)∧(∀ e,K e=clN (rl h (G e)) 4)∧∀ e,G e=mdZ→K e=[]):=by
  refine ⟨fun e=>by rw [a2];exact Ug _ 4,fun e=>by rw [a2];exact (clN_up _ 4).imp fun q=>Nat.ne_of_lt q,fun e=>by rw [a2],fun e he=>?_⟩;rw [a2];dsimp only;rw [he];rfl
 have HR:Hid ((∀ t∈L,(0≤t.1∧t.1≤8)∧(0≤t.2.1∧t.2.1≤8)∧(0≤t.2.2∧t.2.2≤3))∧(∀ i,i<L.length→MOk1 L M i)∧(∀ E,MdOk (G E) L.length)∧Steps w∧G=gA kd L M (pls L M L.length) L.length):=⟨bn,bh,by rw [hG];exact bi,hs,hG⟩;obtain ⟨ci,hi,bv,bw,bz⟩:=info_parts inf44;have HI:=H4 hi bv bw bz;rw [← hG];clear hi bv bw bz hG a2 hs bn bh bi;go_enter Tryz.func24,Tryz.ntmps24;go_upto_region 2 with (go_at_call 16;refine (b5.out _ Θ).mono ?_;rintro e w1 ⟨ad,k,ra,rk,gm,cm,pa,pc,bf,rfl,hP,hH,hb⟩;have ae:=H3 hP hH (Qc β1 hb);clear hP hH hb)
 refine Qi (fun W1 hW1=>?_);obtain ⟨B1,ar⟩:∃ b,b=w1.heap.size:=⟨_,rfl⟩
 have ab:Hid (Bl w1 W1):=by
  show Bl w1 W1
  rw [hW1];with_reducible repeat' (first | exact Qe _ | refine Qh ?_ ?_ | refine Qb ?_)
  all_goals (first | omega | (dsimp only;omega) | (simp;done))
 have X1:Hid (At W1 B1 0 (.slice ad L.length k)∧At W1 B1 1 (.map (some ra))∧At W1 B1 2 (.map (some rk))∧At W1 B1 3 (.slice (Az gm) L.length cm)∧At W1 B1 4 (.slice pa L.length pc)):=by
  rw [hW1,ar];refine ⟨?_, ?_, ?_, ?_, ?_⟩ <;> simp [go_sem]
 rw [← ar];clear hW1 ar;obtain ⟨x0,x1,x2,x3,x4⟩:=X1.out;have zB:=Bt x0
 have b6:Hid (Cl 55 #[.agg #[.slice ad L.length k,.map (some ra),.map (some rk),.slice (Az gm) L.length cm,.slice pa L.length pc]] W1 fun e w'=>MtsTo W1 w' G e):=by
  rw [HR.out.2.2.2.2];exact meetings_any W1 L.length k ra rk gm cm pc ad pa L kd M (ae.out.1.kept ab.out) rfl hL HR.out.1 HR.out.2.1 (HR.out.2.2.2.1.kept (Qc ae.out.2.2 ab.out))
 go_wp2_with (go_at_call 55;refine b6.out.mono ?_;rintro e Z ⟨rm,base,mm,rfl,cd,br,bs,cf,av⟩;obtain ⟨ls,c,aw,bp,bq,a6,aa,_⟩:=cd;have O:Hid (Good ls c∧ls.length≤300000∧(∀ e,lk ls e=none→G e=mdZ)∧(∀ e v,lk ls e=some v→G e≠mdZ∧∃ s0 s1 s2 s3,v=.agg #[s0,s1,s2,s3]∧Ow Z base s0 s1 s2 s3 (G e))∧Hg Z bf L.length h∧Bl w Z):=⟨bp,γ,a6,aa,(ae.out.2.1.kept ab.out).kept av,Qc ae.out.2.2 (Qc ab.out av)⟩;have ag:=run_range_em aw;have aq:=Hd (CS.start aw);clear aw bp bq a6 aa br bs cf av x0 x1 x2 x3 x4 zB)
 obtain ⟨r,hr⟩:∃ r,r=Z.heap.size:=⟨_,rfl⟩;rw [← hr] at aq ⊢;clear hr ag X1 b6 b5;go_loopg [7] (ls.length+1) (fun gk s7 wx=>∃ d:EL,gk=ls.length+1 - d.length∧VisE ls d∧CS Z wx rm r c ls (stampE d) s7 (kV K d))
 case atStart=>exact ⟨[],rfl,VisE.nil ls,aq.out⟩
 case round =>
  clear aq;obtain ⟨d,rfl,hV,hS⟩:=hrel;have HV:=Hd hV;obtain ⟨a7,c7,e7,_,_⟩:=Zz hS.own;subst e7;have HS:=Hd hS
  have bb:Hid ((kV K d).length≤1200000):=by
   show (kV K d).length≤1200000
   have h1:=kV_len K HK.out.1 d;have h2:=hV.len;have h3:=O.out.2.1;omega
  clear hV hS;go_wp2_with (at_next;refine wpList_next_em rfl _ rfl rm r c ls (stampE d) rfl HS.out.em HS.out.it O.out.1 (by have:=HS.out.hr;have:=HS.out.lo;omega) ?done ?more)
  case done =>
   intro ai;have HD:=Hd ai;clear ai;have b7:Hid (Cl 57 #[.slice a7 (kV K d).length c7,.func (.func 58) #[] #[]] wr fun e w'=>e=.returned (.tuple #[])∧∃ Bs',Bs'.Perm (kV K d)∧Bs'.Pairwise (fun x y=>ltC y x=false)∧JRow w' a7 Bs'∧wr.grownBy w' (Value.slice a7 (kV K d).length c7).ownBlock):=sortClash_any wr (r+1) c7 a7 (kV K d) HS.out.own (by have:=bb.out;omega);go_wp2_with (go_at_call 57;refine b7.out.mono ?_;rintro e w9 ⟨rfl,Bs,hp,bu,hj,hg⟩;have X:Hid (Bs.Perm (kV K d)∧Bs.Pairwise (fun x y=>ltC y x=false)∧JRow w9 a7 Bs∧Bl w w9):=⟨hp,bu,hj,Qc O.out.2.2.2.2.2 (HS.out.b.grown hg HS.out.b.size (fun q hq=>by have:=Qw HS.out.own q hq;have:=HS.out.lo;omega))⟩;clear hp bu hj hg)
   have az:(kV K d).length=Bs.length:=X.out.1.length_eq.symm;refine bodyPost_ret (v:=.tuple #[.slice a7 (kV K d).length c7,I 0]) (by simp [results,Tryz.results24,go_sem]) rfl ⟨a7,c7,Bs,by rw [← az],X.out.2.2.1, ?_,fun y=>?_,X.out.2.2.2⟩
   ·have cg:Bs.Nodup:=X.out.1.nodup_iff.2 (kV_nodup K HK.out.2.1 d (HV.out.keys O.out.1));refine List.Pairwise.imp₂ (fun {x y} h1 h2=>ltC_tri h1 (Ne.symm h2)) X.out.2.1 cg
   ·rw [X.out.1.mem_iff,kV_mem];constructor
    ·rintro ⟨x,hx,k,hk,rfl⟩;exact ⟨x.1,k,by rw [← HK.out.2.2.1];exact hk,rfl⟩
    ·rintro ⟨e,k,hk,rfl⟩;rw [← HK.out.2.2.1] at hk
     cases hl:lk ls e with
     | none =>
      rw [HK.out.2.2.2 e (O.out.2.2.1 e hl)] at hk
      cases hk
     | some v =>
      obtain ⟨b,hb⟩:=lk_mem hl;exact ⟨(e,v,b),(HV.out.all O.out.1 HD.out _).2 hb,k,hk,rfl⟩
  case more =>
   intro e0 e1 e2 e3 xv st W4 T an ce;have HX:=Hd T;have be:=Hd (HV.out.add T)
   have ac:Hid (CS Z W4 rm r c ls (stampE (d ++ [((e0,e1,e2,e3),xv,st)])) (.slice a7 (kV K d).length c7) (kV K d)):=by
    show CS Z W4 rm r c ls (stampE (d ++ [((e0,e1,e2,e3),xv,st)])) (.slice a7 (kV K d).length c7) (kV K d)
    rw [stampE_add];exact HS.out.next an
   obtain ⟨_,s0,s1,s2,s3,ch,bj⟩:=O.out.2.2.2.1 (e0,e1,e2,e3) xv (lk_in O.out.1 T.1);subst ch;have U:=Hd bj;clear T an bj;obtain ⟨p,D,f0,_⟩:=Zb U.out.o0;obtain ⟨s,F,f1,_⟩:=Zb U.out.o1;obtain ⟨z,J,f2,_⟩:=Zb U.out.o2;obtain ⟨B,N,f3,_⟩:=Zb U.out.o3;subst f0 f1 f2 f3;go_upto_region 8 with fail
   refine Qi (fun P au=>?_);obtain ⟨o,af⟩:∃ b,b=W4.heap.size:=⟨_,rfl⟩
   have b9:Hid (Bl W4 P):=by
    show Bl W4 P
    rw [au];with_reducible repeat' (first | exact Qe _ | refine Qh ?_ ?_ | refine Qb ?_)
    all_goals (first | (dsimp only;omega) | (simp;done) | (simp;omega))
   have X5:Hid ((At P o 0 (I e0)∧At P o 1 (I e1)∧At P o 2 (I e2)∧At P o 3 (I e3))∧(At P (o+1) 0 (.slice p (G (e0,e1,e2,e3)).a0.length D)∧At P (o+1) 1 (.slice s (G (e0,e1,e2,e3)).b0.length F)∧At P (o+1) 2 (.slice z (G (e0,e1,e2,e3)).a1.length J)∧At P (o+1) 3 (.slice B (G (e0,e1,e2,e3)).b1.length N))):=by
    rw [au,af];refine ⟨⟨?_, ?_, ?_, ?_⟩, ?_, ?_, ?_, ?_⟩ <;> simp [go_sem]
   have ba:=Hd af;rw [← af];clear au af ce;obtain ⟨⟨x0,x1,x2,x3⟩,y0,y1,y2,y3⟩:=X5.out;have zB:=Bt x0;have zC:=Bt y0;obtain ⟨m,ay⟩:∃ m,m=K (e0,e1,e2,e3):=⟨_,rfl⟩
   have ao:Hid (Cl 56 #[.agg #[.slice p (G (e0,e1,e2,e3)).a0.length D,.slice s (G (e0,e1,e2,e3)).b0.length F,.slice z (G (e0,e1,e2,e3)).a1.length J,.slice B (G (e0,e1,e2,e3)).b1.length N],ABv bf] P fun e w'=>∃ a c,e=.returned (.slice a m.length c)∧w'.ownsRow P.heap.size 3 1 (.slice a m.length c) m.length (nV m)∧Bl P w'):=by
    have bm:Bl Z P:=Qc ac.out.b b9.out;have:=meetClash_any P base bf L.length _ _ _ _ (G (e0,e1,e2,e3)) h (U.out.sam (Sam.below (R:=fun _=>False) bm) fun _ _=>id) (O.out.2.2.2.2.1.kept bm) hL (HR.out.2.2.1 _);rw [ay,HK.out.2.2.1];exact this
   have ap:=Hd ay;clear ay;unfold ABv at ao;unfold ABv;go_wp2_with (go_at_call 56;refine ao.out.mono ?_;rintro e w6 ⟨ak,ck,rfl,a8,bk⟩;have Q:=H2 a8 bk;clear a8 bk x0 x1 x2 x3 y0 y1 y2 y3 zB zC)
   go_loopg [7,32] m.length (fun gk s7 cj wx=>∃ (j:Nat) (u:Value),j≤m.length∧gk=m.length - j∧u=s7∧cj=I (j:Int)∧CS Z wx rm r c ls (stampE (d ++ [((e0,e1,e2,e3),Value.agg #[.slice p (G (e0,e1,e2,e3)).a0.length D,.slice s (G (e0,e1,e2,e3)).b0.length F,.slice z (G (e0,e1,e2,e3)).a1.length J,.slice B (G (e0,e1,e2,e3)).b1.length N],st)])) u (kV K d ++ kE K (e0,e1,e2,e3) j)∧wx.ownsRow P.heap.size 3 1 (.slice ak m.length ck) m.length (nV m)∧(At wx o 0 (I e0)∧At wx o 1 (I e1)∧At wx o 2 (I e2)∧At wx o 3 (I e3))∧some o≠u.ownBlock)
   case atStart =>
    obtain ⟨⟨x0,x1,x2,x3⟩,_⟩:=X5.out;refine ⟨0,_,γ,rfl,rfl,rfl, ?_,Q.out.1,⟨Qa Q.out.2 x0,Qa Q.out.2 x1,Qa Q.out.2 x2,Qa Q.out.2 x3⟩,fun e=>?_⟩
    ·rw [kE_zero,List.append_nil];exact ac.out.kept (Qc b9.out Q.out.2)
    ·have:=(ac.out.own.lt o e.symm).2;have:=ba.out;omega
   case round =>
    clear Q X5 ac HS ba ao U;obtain ⟨j,u,hj,rfl,rfl,rfl,hS,a8,⟨x0,x1,x2,x3⟩,bt⟩:=hrel;obtain ⟨A,hA⟩:∃ A,A=kV K d ++ kE K (e0,e1,e2,e3) j:=⟨_,rfl⟩;rw [← hA] at hS;have b8:=Hd hA;obtain ⟨ua,uc,eu,_,_⟩:=Zz hS.own;subst eu;have f:Hid (CS Z wr rm r c ls (stampE (d ++ [((e0,e1,e2,e3),Value.agg #[.slice p (G (e0,e1,e2,e3)).a0.length D,.slice s (G (e0,e1,e2,e3)).b0.length F,.slice z (G (e0,e1,e2,e3)).a1.length J,.slice B (G (e0,e1,e2,e3)).b1.length N],st)])) (.slice ua A.length uc) A∧wr.ownsRow P.heap.size 3 1 (.slice ak m.length ck) m.length (nV m)∧(At wr o 0 (I e0)∧At wr o 1 (I e1)∧At wr o 2 (I e2)∧At wr o 3 (I e3))∧some o≠(Value.slice ua A.length uc).ownBlock):=⟨hS,a8,⟨x0,x1,x2,x3⟩,bt⟩;have zB:=Bt x0
    have bc:Hid (A.length≤1300000):=by
     show A.length≤1300000
     rw [hA,List.length_append];have h1:=kE_len K (e0,e1,e2,e3) j;have h2:=HK.out.1 (e0,e1,e2,e3);have h3:=bb.out;omega
    clear hS a8 bt hA;have co:m.length≤4:=by rw [ap.out];exact HK.out.1 _
    by_cases hj1:j<m.length
    ·have j1:(j:Int)<(m.length:Int):=γ;have j0:(0:Int)≤(j:Int):=γ;obtain ⟨gk,cc,bo⟩:=own_irow f.out.2.1 j hj1;subst cc;obtain ⟨kj,ax⟩:∃ kj,kj=m[j]:=⟨_,rfl⟩;rw [← ax] at bo;have zk:=Bt bo
     have cb:Hid (kE K (e0,e1,e2,e3) (j+1)=kE K (e0,e1,e2,e3) j ++ [((e0,e1,e2,e3),(kj:Int))]):=by
      show kE K (e0,e1,e2,e3) (j+1)=kE K (e0,e1,e2,e3) j ++ [((e0,e1,e2,e3),(kj:Int))]
      have e9:=ap.out;subst e9;rw [kE_succ K _ hj1,ax]
     clear ax;go_wp2_with (at_builtin;refine wpList_append_own_at _ rfl (.tmp 36) (.tmp 40) 81 rfl (r+1) 125 ci (.agg #[I 0,I 0,I 0,I 0,I 0]) 5 40 Tryz.underlying81 HI.out.1 HI.out.2.1 HI.out.2.2.1 HI.out.2.2.2 rfl ψ (.slice ua A.length uc) A.length (flatJ A) rfl (Qj f.out.1.own β1) ⟨wr.heap.size,0,none⟩ 1 1 [I e0,I e1,I e2,I e3,I (kj:Int)] rfl rfl (cell_fiveC _ _ _ _ _ _ _) (Vj [((e0,e1,e2,e3),(kj:Int))]) (by have:=bc.out;unfold maxLen;omega) (by have:=bc.out;omega) (by have:=f.out.1.lt;simp;omega) ?growS)
     case growS =>
      intro v' w8 am l _ aj
      have HN:Hid (CS Z w8 rm r c ls (stampE (d ++ [((e0,e1,e2,e3),Value.agg #[.slice p (G (e0,e1,e2,e3)).a0.length D,.slice s (G (e0,e1,e2,e3)).b0.length F,.slice z (G (e0,e1,e2,e3)).a1.length J,.slice B (G (e0,e1,e2,e3)).b1.length N],st)])) v' (kV K d ++ kE K (e0,e1,e2,e3) (j+1))∧w8.ownsRow P.heap.size 3 1 (.slice (Az gk) m.length ck) m.length (nV m)∧(At w8 o 0 (I e0)∧At w8 o 1 (I e1)∧At w8 o 2 (I e2)∧At w8 o 3 (I e3))∧some o≠v'.ownBlock):=by
       have Y:Bl wr (wr.alloc (.cells #[I e0,I e1,I e2,I e3,I (kj:Int)] 125)):=Qb (Qe _);refine ⟨?_, ?_,⟨l.cell (Qa Y f.out.2.2.1.1) f.out.2.2.2,l.cell (Qa Y f.out.2.2.1.2.1) f.out.2.2.2,l.cell (Qa Y f.out.2.2.1.2.2.1) f.out.2.2.2,l.cell (Qa Y f.out.2.2.1.2.2.2) f.out.2.2.2⟩,fun e=>?_⟩
       ·rw [cb.out,← List.append_assoc,← b8.out];exact (f.out.1.kept Y).more l am
       ·refine (Sam.grown l).own (Qj f.out.2.1 Y) fun g e9 e8=>?_;exact Jn (Qbl f.out.2.1 (Nat.zero_le _)) (Qbl f.out.1.own (Nat.zero_le _)) ψ g e9 e8
       ·rcases aj with h9 | h9
        ·rw [h9] at e;exact f.out.2.2.2 e
        ·rw [h9] at e;simp at e;omega
      clear am l aj;go_wp2;go_roundg (m.length - (j+1))
      case measure=>omega
      case rel=>exact ⟨j+1,v',γ,rfl,rfl,σ,HN.out.1,HN.out.2.1,HN.out.2.2.1,HN.out.2.2.2⟩
    ·have j1:¬ (j:Int)<(m.length:Int):=γ;obtain rfl:j=m.length:=γ
     have ca:Hid (CS Z wr rm r c ls (stampE (d ++ [((e0,e1,e2,e3),Value.agg #[.slice p (G (e0,e1,e2,e3)).a0.length D,.slice s (G (e0,e1,e2,e3)).b0.length F,.slice z (G (e0,e1,e2,e3)).a1.length J,.slice B (G (e0,e1,e2,e3)).b1.length N],st)])) (.slice ua A.length uc) (kV K (d ++ [((e0,e1,e2,e3),Value.agg #[.slice p (G (e0,e1,e2,e3)).a0.length D,.slice s (G (e0,e1,e2,e3)).b0.length F,.slice z (G (e0,e1,e2,e3)).a1.length J,.slice B (G (e0,e1,e2,e3)).b1.length N],st)]))):=by
      show CS Z wr rm r c ls (stampE (d ++ [((e0,e1,e2,e3),Value.agg #[.slice p (G (e0,e1,e2,e3)).a0.length D,.slice s (G (e0,e1,e2,e3)).b0.length F,.slice z (G (e0,e1,e2,e3)).a1.length J,.slice B (G (e0,e1,e2,e3)).b1.length N],st)])) (.slice ua A.length uc) (kV K (d ++ [((e0,e1,e2,e3),Value.agg #[.slice p (G (e0,e1,e2,e3)).a0.length D,.slice s (G (e0,e1,e2,e3)).b0.length F,.slice z (G (e0,e1,e2,e3)).a1.length J,.slice B (G (e0,e1,e2,e3)).b1.length N],st)]))
      have h9:=f.out.1;have e9:=ap.out;rw [kV_add];have e8:=b8.out;rw [e9] at e8;rw [← e8];exact h9
     go_wp2;go_roundg (ls.length+1 - (d ++ [((e0,e1,e2,e3),Value.agg #[.slice p (G (e0,e1,e2,e3)).a0.length D,.slice s (G (e0,e1,e2,e3)).b0.length F,.slice z (G (e0,e1,e2,e3)).a1.length J,.slice B (G (e0,e1,e2,e3)).b1.length N],st)]).length)
     case measure =>
      have h8:=be.out.len;rw [List.length_append,List.length_singleton] at h8 ⊢;omega
     case rel=>exact ⟨d ++ [((e0,e1,e2,e3),Value.agg #[.slice p (G (e0,e1,e2,e3)).a0.length D,.slice s (G (e0,e1,e2,e3)).b0.length F,.slice z (G (e0,e1,e2,e3)).a1.length J,.slice B (G (e0,e1,e2,e3)).b1.length N],st)],rfl,be.out,ca.out⟩
end Go.Proofs.YtjkjpopghkeibaaGreatDoor
