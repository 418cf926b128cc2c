/- A part of it. -/
import Derived.Test.YtbjmnlefkbhbdaaGreatDoorQlab
import Derived.Test.YtbjmnlefkbhbdaaGreatDoorQlad
import Derived.Test.YtbjmnlefkbhbdaaGreatDoorQlae
set_option maxRecDepth 100000
set_option maxHeartbeats 40000000
namespace Go.Proofs.YtbjmnlefkbhbdaaGreatDoor
open Go.RowKit
variable {l:List T3} {t u:T3}
theorem Um (v0 d e v3 v4 v5:Int) (pt:Nat) (w:World) (c:∀ W:World,Bl w W→Rt 244 #[.pointer (Az pt)] W (.tuple #[.agg #[I v0,I d,I e,I v3,I v4,I v5],I 0])) :
  Rt 243 #[.bool true,.func (.func 244) #[] #[.pointer (Az pt)]] w (.tuple #[.agg #[I v0,I d,I e,I v3,I v4,I v5],I 0]):=by
 have g:=Hd c;clear c;go_enter Tryz.func243,Tryz.ntmps243;go_wp2_with (go_at_call 244;refine (g.out _ β2).mono ?_;rintro r b ⟨rfl,hb⟩;have r0:At b w.heap.size 0 (I 0):=Qa hb ε;have h:=Fk w.heap.size 0 hb;have r1:At b w.heap.size 1 (I 0):=Qa hb ε;have i:=Fk w.heap.size 1 hb;have r2:At b w.heap.size 2 (I 0):=Qa hb ε;have j:=Fk w.heap.size 2 hb;have r3:At b w.heap.size 3 (I 0):=Qa hb ε;have k:=Fk w.heap.size 3 hb;have u:At b w.heap.size 4 (I 0):=Qa hb ε;have l:=Fk w.heap.size 4 hb;have x:At b w.heap.size 5 (I 0):=Qa hb ε;have m:=Fk w.heap.size 5 hb;have n:w.heap.size<b.heap.size:=World.block_lt_of_cell? (w:=b) (a:=⟨w.heap.size,0,none⟩) r0;have o:w.heap.size<b.heap.size+1:=γ;have p:w.heap.size<b.heap.size+1+1:=γ;have q:w.heap.size<b.heap.size+1+1+1:=γ;have s:w.heap.size<b.heap.size+1+1+1+1:=γ;have t:w.heap.size<b.heap.size+1+1+1+1+1:=γ;have f:=Hd (Qb β2 hb);clear hb)
 refine bodyPost_ret (v:=.tuple #[.agg #[I v0,I d,I e,I v3,I v4,I v5],I 0]) ?_ rfl ⟨rfl, ?_⟩
 ·first | (simp [results,Tryz.results243,go_sem, *];done) | (simp [results,Tryz.results243,go_sem,Ca, *];done)
 ·with_reducible repeat' (first | exact f.out | refine Qk ?_ ?_ | refine Qc ?_ | refine Qe ?_)
  all_goals (first | (simp;done) | (simp;omega))
theorem Corners1_yes (x y k:Int) (pt:Nat) (w:World) (h:triB x y k=true) (hs:Steps w) (c:Tr w pt x y k) :
  Rt 244 #[.pointer (Az pt)] w (.tuple #[.agg #[I (2*x+1),I (2*y+1),I (c1x x k),I (c1y y k),I (c2x x k),I (c2y y k)],I 0]):=by
 have A:=c.lt;obtain ⟨b0,b1,b2⟩:=c;have e:=Hd hs;clear hs;go_enter Tryz.func244,Tryz.ntmps244;go_wp2_with (go_at_call 29;refine (Yn _ _ _ _ h (e.out.kept β1)).mono ?_;rintro r b ⟨rfl,hb⟩;have r0:At b w.heap.size 0 (I 0):=Qa hb ε;have f:=Fk w.heap.size 0 hb;have r1:At b w.heap.size 1 (I 0):=Qa hb ε;have g:=Fk w.heap.size 1 hb;have r2:At b w.heap.size 2 (I 0):=Qa hb ε;have i:=Fk w.heap.size 2 hb;have r3:At b w.heap.size 3 (I 0):=Qa hb ε;have j:=Fk w.heap.size 3 hb;have u:At b w.heap.size 4 (I 0):=Qa hb ε;have l:=Fk w.heap.size 4 hb;have z:At b w.heap.size 5 (I 0):=Qa hb ε;have m:=Fk w.heap.size 5 hb;have n:w.heap.size<b.heap.size:=World.block_lt_of_cell? (w:=b) (a:=⟨w.heap.size,0,none⟩) r0;have o:w.heap.size<b.heap.size+1:=γ;have p:w.heap.size<b.heap.size+1+1:=γ;have q:w.heap.size<b.heap.size+1+1+1:=γ;have s:w.heap.size<b.heap.size+1+1+1+1:=γ;have t:w.heap.size<b.heap.size+1+1+1+1+1:=γ;have d:=Hd (Qb β1 hb);clear hb)
 refine bodyPost_ret (v:=.tuple #[.agg #[I (2*x+1),I (2*y+1),I (c1x x k),I (c1y y k),I (c2x x k),I (c2y y k)],I 0]) ?_ rfl ⟨rfl, ?_⟩
 ·first | (simp [results,Tryz.results244,go_sem, *];done) | (simp [results,Tryz.results244,go_sem,Ca, *];done)
 ·with_reducible repeat' (first | exact d.out | refine Qk ?_ ?_ | refine Qc ?_ | refine Qe ?_)
  all_goals (first | (simp;done) | (simp;omega))
theorem Corners_yes (x y k:Int) (w:World) (h:triB x y k=true) (hs:Steps w) :
  Rt 222 #[.agg #[I x,I y,I k]] w (.tuple #[.agg #[I (2*x+1),I (2*y+1),I (c1x x k),I (c1y y k),I (c2x x k),I (c2y y k)],I 0]):=by
 have n:=Qy;have e:Hid (∀ (pt:Nat) (W:World),Bl w W→Tr W pt x y k→Rt 244 #[.pointer (Az pt)] W (.tuple #[.agg #[I (2*x+1),I (2*y+1),I (c1x x k),I (c1y y k),I (c2x x k),I (c2y y k)],I 0])):=fun pt W c o=>Corners1_yes x y k pt W h (hs.kept c) o;clear hs;go_enter Tryz.func222,Tryz.ntmps222;go_wp2_with (first | (go_at_call 23;refine (Jk _ _ _ _).mono ?_;rintro r C ⟨rfl,o2,rfl⟩) | (go_at_call 243;refine (Um _ _ _ _ _ _ _ _ (fun W c=>e.out _ W (Qb β3 c) (Tr.kept (by simp [Tr,go_sem]) c))).mono ?_;rintro r b ⟨rfl,hb⟩;have r0:At b (w.heap.size+1) 0 (I 0):=Qa hb ε;have f:=Fk (w.heap.size+1) 0 hb;have r1:At b (w.heap.size+1) 1 (I 0):=Qa hb ε;have g:=Fk (w.heap.size+1) 1 hb;have r2:At b (w.heap.size+1) 2 (I 0):=Qa hb ε;have i:=Fk (w.heap.size+1) 2 hb;have r3:At b (w.heap.size+1) 3 (I 0):=Qa hb ε;have j:=Fk (w.heap.size+1) 3 hb;have A:At b (w.heap.size+1) 4 (I 0):=Qa hb ε;have l:=Fk (w.heap.size+1) 4 hb;have B:At b (w.heap.size+1) 5 (I 0):=Qa hb ε;have m:=Fk (w.heap.size+1) 5 hb;have p:w.heap.size+1<b.heap.size:=World.block_lt_of_cell? (w:=b) (a:=⟨w.heap.size+1,0,none⟩) r0;have q:w.heap.size+1<b.heap.size+1:=γ;have s:w.heap.size+1<b.heap.size+1+1:=γ;have t:w.heap.size+1<b.heap.size+1+1+1:=γ;have u:w.heap.size+1<b.heap.size+1+1+1+1:=γ;have z:w.heap.size+1<b.heap.size+1+1+1+1+1:=γ;have d:=Hd (Qb β3 hb);clear hb))
 refine bodyPost_ret (v:=.tuple #[.agg #[I (2*x+1),I (2*y+1),I (c1x x k),I (c1y y k),I (c2x x k),I (c2y y k)],I 0]) ?_ rfl ⟨rfl, ?_⟩
 ·first | (simp [results,Tryz.results222,go_sem, *];done) | (simp [results,Tryz.results222,go_sem,Ca, *];done)
 ·with_reducible repeat' (first | exact d.out | refine Qk ?_ ?_ | refine Qc ?_ | refine Qe ?_)
  all_goals (first | (simp;done) | (simp;omega))
theorem edges_num (x y k:Int) (w:World) (h:triB x y k=true) (hs:Steps w) :
  Rt 205 #[.agg #[I x,I y,I k]] w (.agg #[I (ue0 x y k),I (ue1 x y k),I (ue2 x y k),I (ue3 x y k),I (ue4 x y k),I (ue5 x y k),I (ue6 x y k),I (ue7 x y k),I (ue8 x y k),I (ue9 x y k),I (ue10 x y k),I (ue11 x y k)]):=edges_any x y k w h hs
theorem Gh (v0 f g v3 v4 v5 h i j v9 d e:Int) (pt:Nat) (w:World) (c:∀ W:World,Bl w W→Rt 204 #[.pointer (Az pt)] W (.tuple #[.agg #[I v0,I f,I g,I v3,I v4,I v5,I h,I i,I j,I v9,I d,I e],I 0])) :
  Rt 203 #[.bool true,.func (.func 204) #[] #[.pointer (Az pt)]] w (.tuple #[.agg #[I v0,I f,I g,I v3,I v4,I v5,I h,I i,I j,I v9,I d,I e],I 0]):=by
 have n:=Hd c;clear c;go_enter Tryz.func203,Tryz.ntmps203;go_wp2_with (go_at_call 204;refine (n.out _ β2).mono ?_;rintro r b ⟨rfl,hb⟩;have r0:At b w.heap.size 0 (I 0):=Qa hb ε;have o:=Fk w.heap.size 0 hb;have r1:At b w.heap.size 1 (I 0):=Qa hb ε;have p:=Fk w.heap.size 1 hb;have r2:At b w.heap.size 2 (I 0):=Qa hb ε;have q:=Fk w.heap.size 2 hb;have r3:At b w.heap.size 3 (I 0):=Qa hb ε;have s:=Fk w.heap.size 3 hb;have K:At b w.heap.size 4 (I 0):=Qa hb ε;have t:=Fk w.heap.size 4 hb;have L:At b w.heap.size 5 (I 0):=Qa hb ε;have u:=Fk w.heap.size 5 hb;have M:At b w.heap.size 6 (I 0):=Qa hb ε;have x:=Fk w.heap.size 6 hb;have N:At b w.heap.size 7 (I 0):=Qa hb ε;have y:=Fk w.heap.size 7 hb;have O:At b w.heap.size 8 (I 0):=Qa hb ε;have z:=Fk w.heap.size 8 hb;have P:At b w.heap.size 9 (I 0):=Qa hb ε;have A:=Fk w.heap.size 9 hb;have B:At b w.heap.size 10 (I 0):=Qa hb ε;have k:=Fk w.heap.size 10 hb;have C:At b w.heap.size 11 (I 0):=Qa hb ε;have l:=Fk w.heap.size 11 hb;have D:w.heap.size<b.heap.size:=World.block_lt_of_cell? (w:=b) (a:=⟨w.heap.size,0,none⟩) r0;have E:w.heap.size<b.heap.size+1:=γ;have F:w.heap.size<b.heap.size+1+1:=γ;have G:w.heap.size<b.heap.size+1+1+1:=γ;have H:w.heap.size<b.heap.size+1+1+1+1:=γ;have J:w.heap.size<b.heap.size+1+1+1+1+1:=γ;have m:=Hd (Qb β2 hb);clear hb)
 refine bodyPost_ret (v:=.tuple #[.agg #[I v0,I f,I g,I v3,I v4,I v5,I h,I i,I j,I v9,I d,I e],I 0]) ?_ rfl ⟨rfl, ?_⟩
 ·first | (simp [results,Tryz.results203,go_sem, *];done) | (simp [results,Tryz.results203,go_sem,Ca, *];done)
 ·with_reducible repeat' (first | exact m.out | refine Qk ?_ ?_ | refine Qc ?_ | refine Qe ?_)
  all_goals (first | (simp;done) | (simp;omega))
theorem Edges1_yes (x y k:Int) (pt:Nat) (w:World) (h:triB x y k=true) (hs:Steps w) (e:Tr w pt x y k) :
  Rt 204 #[.pointer (Az pt)] w (.tuple #[.agg #[I (ue0 x y k),I (ue1 x y k),I (ue2 x y k),I (ue3 x y k),I (ue4 x y k),I (ue5 x y k),I (ue6 x y k),I (ue7 x y k),I (ue8 x y k),I (ue9 x y k),I (ue10 x y k),I (ue11 x y k)],I 0]):=by
 have N:=e.lt;obtain ⟨b0,b1,b2⟩:=e;have g:=Hd hs;clear hs;go_enter Tryz.func204,Tryz.ntmps204;go_wp2_with (go_at_call 205;refine (edges_num _ _ _ _ h (g.out.kept β1)).mono ?_;rintro r b ⟨rfl,hb⟩;have r0:At b w.heap.size 0 (I 0):=Qa hb ε;have i:=Fk w.heap.size 0 hb;have r1:At b w.heap.size 1 (I 0):=Qa hb ε;have j:=Fk w.heap.size 1 hb;have r2:At b w.heap.size 2 (I 0):=Qa hb ε;have l:=Fk w.heap.size 2 hb;have r3:At b w.heap.size 3 (I 0):=Qa hb ε;have m:=Fk w.heap.size 3 hb;have G:At b w.heap.size 4 (I 0):=Qa hb ε;have n:=Fk w.heap.size 4 hb;have H:At b w.heap.size 5 (I 0):=Qa hb ε;have o:=Fk w.heap.size 5 hb;have J:At b w.heap.size 6 (I 0):=Qa hb ε;have p:=Fk w.heap.size 6 hb;have K:At b w.heap.size 7 (I 0):=Qa hb ε;have q:=Fk w.heap.size 7 hb;have L:At b w.heap.size 8 (I 0):=Qa hb ε;have s:=Fk w.heap.size 8 hb;have M:At b w.heap.size 9 (I 0):=Qa hb ε;have t:=Fk w.heap.size 9 hb;have u:At b w.heap.size 10 (I 0):=Qa hb ε;have c:=Fk w.heap.size 10 hb;have z:At b w.heap.size 11 (I 0):=Qa hb ε;have d:=Fk w.heap.size 11 hb;have A:w.heap.size<b.heap.size:=World.block_lt_of_cell? (w:=b) (a:=⟨w.heap.size,0,none⟩) r0;have B:w.heap.size<b.heap.size+1:=γ;have C:w.heap.size<b.heap.size+1+1:=γ;have D:w.heap.size<b.heap.size+1+1+1:=γ;have E:w.heap.size<b.heap.size+1+1+1+1:=γ;have F:w.heap.size<b.heap.size+1+1+1+1+1:=γ;have f:=Hd (Qb β1 hb);clear hb)
 refine bodyPost_ret (v:=.tuple #[.agg #[I (ue0 x y k),I (ue1 x y k),I (ue2 x y k),I (ue3 x y k),I (ue4 x y k),I (ue5 x y k),I (ue6 x y k),I (ue7 x y k),I (ue8 x y k),I (ue9 x y k),I (ue10 x y k),I (ue11 x y k)],I 0]) ?_ rfl ⟨rfl, ?_⟩
 ·first | (simp [results,Tryz.results204,go_sem, *];done) | (simp [results,Tryz.results204,go_sem,Ca, *];done)
 ·with_reducible repeat' (first | exact f.out | refine Qk ?_ ?_ | refine Qc ?_ | refine Qe ?_)
  all_goals (first | (simp;done) | (simp;omega))
theorem Edges_yes (x y k:Int) (w:World) (h:triB x y k=true) (hs:Steps w) :
  Rt 161 #[.agg #[I x,I y,I k]] w (.tuple #[.agg #[I (ue0 x y k),I (ue1 x y k),I (ue2 x y k),I (ue3 x y k),I (ue4 x y k),I (ue5 x y k),I (ue6 x y k),I (ue7 x y k),I (ue8 x y k),I (ue9 x y k),I (ue10 x y k),I (ue11 x y k)],I 0]):=by
 have u:=Qy;have g:Hid (∀ (pt:Nat) (W:World),Bl w W→Tr W pt x y k→Rt 204 #[.pointer (Az pt)] W (.tuple #[.agg #[I (ue0 x y k),I (ue1 x y k),I (ue2 x y k),I (ue3 x y k),I (ue4 x y k),I (ue5 x y k),I (ue6 x y k),I (ue7 x y k),I (ue8 x y k),I (ue9 x y k),I (ue10 x y k),I (ue11 x y k)],I 0])):=fun pt W c z=>Edges1_yes x y k pt W h (hs.kept c) z;clear hs;go_enter Tryz.func161,Tryz.ntmps161;go_wp2_with (first | (go_at_call 23;refine (Jk _ _ _ _).mono ?_;rintro r P ⟨rfl,o2,rfl⟩) | (go_at_call 203;refine (Gh _ _ _ _ _ _ _ _ _ _ _ _ _ _ (fun W c=>g.out _ W (Qb β3 c) (Tr.kept (by simp [Tr,go_sem]) c))).mono ?_;rintro r b ⟨rfl,hb⟩;have r0:At b (w.heap.size+1) 0 (I 0):=Qa hb ε;have i:=Fk (w.heap.size+1) 0 hb;have r1:At b (w.heap.size+1) 1 (I 0):=Qa hb ε;have j:=Fk (w.heap.size+1) 1 hb;have r2:At b (w.heap.size+1) 2 (I 0):=Qa hb ε;have l:=Fk (w.heap.size+1) 2 hb;have r3:At b (w.heap.size+1) 3 (I 0):=Qa hb ε;have m:=Fk (w.heap.size+1) 3 hb;have J:At b (w.heap.size+1) 4 (I 0):=Qa hb ε;have n:=Fk (w.heap.size+1) 4 hb;have K:At b (w.heap.size+1) 5 (I 0):=Qa hb ε;have o:=Fk (w.heap.size+1) 5 hb;have L:At b (w.heap.size+1) 6 (I 0):=Qa hb ε;have p:=Fk (w.heap.size+1) 6 hb;have M:At b (w.heap.size+1) 7 (I 0):=Qa hb ε;have q:=Fk (w.heap.size+1) 7 hb;have N:At b (w.heap.size+1) 8 (I 0):=Qa hb ε;have s:=Fk (w.heap.size+1) 8 hb;have O:At b (w.heap.size+1) 9 (I 0):=Qa hb ε;have t:=Fk (w.heap.size+1) 9 hb;have A:At b (w.heap.size+1) 10 (I 0):=Qa hb ε;have d:=Fk (w.heap.size+1) 10 hb;have B:At b (w.heap.size+1) 11 (I 0):=Qa hb ε;have e:=Fk (w.heap.size+1) 11 hb;have C:w.heap.size+1<b.heap.size:=World.block_lt_of_cell? (w:=b) (a:=⟨w.heap.size+1,0,none⟩) r0;have D:w.heap.size+1<b.heap.size+1:=γ;have E:w.heap.size+1<b.heap.size+1+1:=γ;have F:w.heap.size+1<b.heap.size+1+1+1:=γ;have G:w.heap.size+1<b.heap.size+1+1+1+1:=γ;have H:w.heap.size+1<b.heap.size+1+1+1+1+1:=γ;have f:=Hd (Qb β3 hb);clear hb))
 refine bodyPost_ret (v:=.tuple #[.agg #[I (ue0 x y k),I (ue1 x y k),I (ue2 x y k),I (ue3 x y k),I (ue4 x y k),I (ue5 x y k),I (ue6 x y k),I (ue7 x y k),I (ue8 x y k),I (ue9 x y k),I (ue10 x y k),I (ue11 x y k)],I 0]) ?_ rfl ⟨rfl, ?_⟩
 ·first | (simp [results,Tryz.results161,go_sem, *];done) | (simp [results,Tryz.results161,go_sem,Ca, *];done)
 ·with_reducible repeat' (first | exact f.out | refine Qk ?_ ?_ | refine Qc ?_ | refine Qe ?_)
  all_goals (first | (simp;done) | (simp;omega))
attribute [local go_sem ↓] Go.wp_at_zero Go.wp_at_succ
theorem Qw {v u:World} (h:Below v.drew.heap.size v.drew u):Bl v u:=Qb (Qe (Qd v)) h
def TRow (w:World) (a:Option Addr) (l:List T3):Prop :=
 ∀ i (h:i<l.length),∃ g,a=Az g∧At w g (i*3) (I l[i].1)∧At w g (i*3+1) (I l[i].2.1)∧At w g (i*3+2) (I l[i].2.2)
theorem TRow.kept {w b:World} {a:Option Addr} (h:TRow w a l) (hb:Bl w b):TRow b a l:=fun i hi=>by
 obtain ⟨g,e,h0,h1,h2⟩:=h i hi;exact ⟨g,e,Qa hb h0,Qa hb h1,Qa hb h2⟩
theorem flatV_at:∀ (l:List T3) (i:Nat) (h:i<l.length),(flatV l)[i*3]?=some (I l[i].1)∧(flatV l)[i*3+1]?=some (I l[i].2.1)∧(flatV l)[i*3+2]?=some (I l[i].2.2)
 | t :: l,0,_=>by simp [flatV]
 | t :: l,i+1,h=>by
  have a:=flatV_at l i (by simpa using h);have e:flatV (t :: l)=[I t.1,I t.2.1,I t.2.2] ++ flatV l:=by simp [flatV]
  rw [e,show (i+1)*3=3+i*3 by omega];simp only [List.getElem_cons_succ];refine ⟨?_, ?_, ?_⟩
  ·rw [List.getElem?_append_right ν];simpa using a.1
  ·rw [List.getElem?_append_right ψ];rw [show 3+i*3+1 - [I t.1,I t.2.1,I t.2.2].length=i*3+1 by simp;omega];exact a.2.1
  ·rw [List.getElem?_append_right ψ];rw [show 3+i*3+2 - [I t.1,I t.2.1,I t.2.2].length=i*3+2 by simp;omega];exact a.2.2
theorem Yt {w:World} {base:Nat} {v:Value} (h:w.ownsRow base 44 3 v l.length (flatV l)):∃ a b,v=.slice a l.length b∧TRow w a l:=by
 rcases h.2 with ⟨rfl,h0⟩ | ⟨g,b,c,rfl,_⟩
 ·exact ⟨none,0,by rw [h0],fun i hi=>by omega⟩
 ·refine ⟨Az g,b,rfl,fun i hi=>⟨g,rfl, ?_⟩⟩;have f:=flatV_at l i hi;exact ⟨(h.cellAt _ γ).trans f.1,(h.cellAt _ γ).trans f.2.1,(h.cellAt _ γ).trans f.2.2⟩
theorem ty_bd {zs:List Int} {W H:Nat} (c:W≤8) (b:H≤8):∀ t∈ty zs W H,(0≤t.1∧t.1≤8)∧(0≤t.2.1∧t.2.1≤8)∧(0≤t.2.2∧t.2.2≤3):=by
 intro t a;simp only [ty,tx,tk,List.mem_flatMap,List.mem_map,List.mem_filter,List.mem_range] at a;obtain ⟨y,f,x,e,k,⟨d,_⟩,rfl⟩:=a;dsimp only;omega
def cnt (l:List T3) (p q r s:Int):Nat:=l.countP fun t=>hasB t.1 t.2.1 t.2.2 p q r s
theorem cnt_next {p q r s:Int} {i:Nat} (h:i<l.length):cnt (l.take (i+1)) p q r s=cnt (l.take i) p q r s+if hasB l[i].1 l[i].2.1 l[i].2.2 p q r s=true then 1 else 0:=by
 unfold cnt;rw [List.take_succ_eq_append_getElem h,List.countP_append];simp [List.countP_cons]
def hasT (t:T3) (e:E4):Bool:=hasB t.1 t.2.1 t.2.2 e.1 e.2.1 e.2.2.1 e.2.2.2
def edg (t:T3) (i:Nat):Int×Int×Int×Int :=
 if i=0 then (ue0 t.1 t.2.1 t.2.2,ue1 t.1 t.2.1 t.2.2,ue2 t.1 t.2.1 t.2.2,ue3 t.1 t.2.1 t.2.2)
 else if i=1 then (ue4 t.1 t.2.1 t.2.2,ue5 t.1 t.2.1 t.2.2,ue6 t.1 t.2.1 t.2.2,ue7 t.1 t.2.1 t.2.2)
 else (ue8 t.1 t.2.1 t.2.2,ue9 t.1 t.2.1 t.2.2,ue10 t.1 t.2.1 t.2.2,ue11 t.1 t.2.1 t.2.2)
def acr (t:T3) (e:E4):Int×Int×Int :=
 (acX t.1 t.2.1 t.2.2 e.1 e.2.1 e.2.2.1 e.2.2.2,acY t.1 t.2.1 t.2.2 e.1 e.2.1 e.2.2.1 e.2.2.2,acK t.1 t.2.1 t.2.2 e.1 e.2.1 e.2.2.1 e.2.2.2)
def Kd (t:T3):Prop:=0≤t.2.2∧t.2.2≤3
theorem Xq (t:T3) (i:Nat):hasT t (edg t i)=true:=by
 unfold edg;split
 ·simp [hasT,hasB,e0,sameB]
 ·split
  ·simp [hasT,hasB,e1,sameB]
  ·simp [hasT,hasB,e2,sameB]
theorem Uf {e:E4} (h:hasT t e=true):∃ i,i<3∧edg t i=e:=by
 unfold hasT at h;rw [Jb] at h;obtain ⟨p,q,r,s⟩:=e;rcases h with h | h | h
 ·exact ⟨0,γ,by simpa [edg,e0,sameB] using h⟩
 ·exact ⟨1,γ,by simpa [edg,e1,sameB] using h⟩
 ·exact ⟨2,γ,by simpa [edg,e2,sameB] using h⟩
def Adj (t u:T3):Prop:=u≠t∧∃ e,hasT t e=true∧hasT u e=true
theorem Xj {e:E4} (f:Kd t) (g:Kd u) (h1:hasT t e=true) (h2:hasT u e=true) (d:u≠t):u=acr t e:=by
 obtain ⟨x,y,k⟩:=t;obtain ⟨X,Y,K⟩:=u;obtain ⟨p,q,r,s⟩:=e;have:=across_is x y k p q r s (X - x) (Y - y) K f.1 f.2 g.1 g.2 h1 ⟨by rw [show x+(X - x)=X by omega,show y+(Y - y)=Y by omega];exact h2,fun h=>d (by obtain ⟨a,b,c⟩:=h;simp;omega)⟩;simp only [acr,Prod.mk.injEq];omega
def Reach (l:List T3) (t u:T3):Prop:=t∈l∧∀ p:T3→Prop,p t→(∀ a b,p a→b∈l→Adj a b→p b)→p u
theorem Reach.here (h:t∈l):Reach l t t:=⟨h,fun _ k _=>k⟩
theorem Reach.step {v:T3} (h:Reach l t u) (b:v∈l) (a:Adj u v):Reach l t v:=⟨h.1,fun p k s=>s _ _ (h.2 p k s) b a⟩
theorem Reach.ind {motive:∀ u,Reach l t u→Prop} (here:∀ h:t∈l,motive t (Reach.here h))
  (step:∀ {u v} (h:Reach l t u) (c:v∈l) (b:Adj u v),motive u h→motive v (Reach.step h c b)) (h:Reach l t u):motive u h:=by
 obtain ⟨_,m⟩:=h.2 (fun x=>∃ k:Reach l t x,motive x k) ⟨Reach.here h.1,here h.1⟩ (fun _ _ ⟨_,m⟩ hb a=>⟨_,step _ hb a m⟩);exact m
theorem Reach.mem (h:Reach l t u):t∈l∧u∈l:=by
 induction h using Reach.ind with
 | here h=>exact ⟨h,h⟩
 | step _ hv _ ih=>exact ⟨ih.1,hv⟩
theorem Jp (b:l.Nodup) {i j:Nat} (hi:i<l.length) (a:j<l.length) (e:l[i]=l[j]):i=j:=by
 have hp:=List.pairwise_iff_getElem.1 b;rcases Nat.lt_trichotomy i j with h | h | h
 ·exact absurd e (hp i j hi a h)
 ·exact h
 ·exact absurd e.symm (hp j i a hi h)
def Joined (l:List T3):Prop := ∃ h:0<l.length,∀ i (hi:i<l.length),Reach l l[0] l[i]
theorem reached_joined (h0:0<l.length) (R:Nat→Prop) (m:R 0)
  (h1:∀ i (hi:i<l.length),R i→Reach l l[0] l[i])
  (h2:∀ i j (hi:i<l.length) (b:j<l.length),R i→Adj l[i] l[j]→R j) (k:l.Nodup) :
  (∀ i,i<l.length→R i)↔Joined l:=by
 constructor
 ·exact fun h=>⟨h0,fun i hi=>h1 i hi (h i hi)⟩
 ·rintro ⟨_,h⟩ i hi
  have c:∀ t,Reach l l[0] t→∀ j (b:j<l.length),l[j]=t→R j:=by
   intro t f;generalize hz':l[0]=z at f;induction f using Reach.ind with
   | here hm =>
    intro j b e;have:j=0:=Jp k b h0 (e.trans hz'.symm);exact this ▸ m
   | @step u v hr hv ha ih =>
    intro j b e;obtain ⟨g,a,d⟩:=List.getElem_of_mem hr.mem.2;exact h2 g j a b (ih g a d) (by rw [e,d];exact ha)
  exact c _ (h i hi) i hi rfl
theorem tk_nodup (zs:List Int) (W x y:Nat):∀ n,(tk zs W x y n).Nodup
 | 0=>by simp [tk]
 | n+1=>by
  cases h:bitAt zs W x y n
  ·rw [tk_no h];exact tk_nodup zs W x y n
  ·rw [tk_yes h,List.nodup_append];refine ⟨tk_nodup zs W x y n,ν, ?_⟩;intro a c b hb;simp [tk] at c hb;obtain ⟨k,⟨d,_⟩,rfl⟩:=c;subst hb;simp;omega
theorem tx_nodup (zs:List Int) (W y:Nat):∀ n,(tx zs W y n).Nodup
 | 0=>by simp [tx]
 | n+1=>by
  rw [tx_succ,List.nodup_append];refine ⟨tx_nodup zs W y n,tk_nodup _ _ _ _ _, ?_⟩;intro a c b hb;simp only [tx,tk,List.mem_flatMap,List.mem_map,List.mem_filter,List.mem_range] at c hb;obtain ⟨x,d,k,_,rfl⟩:=c;obtain ⟨e,_,rfl⟩:=hb;simp;omega
theorem Yf (zs:List Int) (W:Nat):∀ n,(ty zs W n).Nodup
 | 0=>by simp [ty]
 | n+1=>by
  rw [ty_succ,List.nodup_append];refine ⟨Yf zs W n,tx_nodup _ _ _ _, ?_⟩;intro a c b hb;simp only [ty,tx,tk,List.mem_flatMap,List.mem_map,List.mem_filter,List.mem_range] at c hb;obtain ⟨y,e,x,d,k,_,rfl⟩:=c;obtain ⟨g,_,f,_,rfl⟩:=hb;simp;omega
theorem Zj (x y k:Int) (w:World) (h:triB x y k=true) (hs:Steps w) :
  Rt 136 #[.agg #[I x,I y,I k]] w (.agg #[I (ue0 x y k),I (ue1 x y k),I (ue2 x y k),I (ue3 x y k),I (ue4 x y k),I (ue5 x y k),I (ue6 x y k),I (ue7 x y k),I (ue8 x y k),I (ue9 x y k),I (ue10 x y k),I (ue11 x y k)]):=by
 have g:=Hd hs;clear hs;go_enter Tryz.func136,Tryz.ntmps136;go_wp2_with (go_at_call 161;refine (Edges_yes _ _ _ _ h (g.out.kept β2)).mono ?_;rintro e b ⟨rfl,hb⟩;have r0:At b (w.heap.size+1) 0 (I 0):=Qa hb ε;have i:=Fk (w.heap.size+1) 0 hb;have r1:At b (w.heap.size+1) 1 (I 0):=Qa hb ε;have j:=Fk (w.heap.size+1) 1 hb;have r2:At b (w.heap.size+1) 2 (I 0):=Qa hb ε;have l:=Fk (w.heap.size+1) 2 hb;have r3:At b (w.heap.size+1) 3 (I 0):=Qa hb ε;have m:=Fk (w.heap.size+1) 3 hb;have D:At b (w.heap.size+1) 4 (I 0):=Qa hb ε;have n:=Fk (w.heap.size+1) 4 hb;have E:At b (w.heap.size+1) 5 (I 0):=Qa hb ε;have o:=Fk (w.heap.size+1) 5 hb;have F:At b (w.heap.size+1) 6 (I 0):=Qa hb ε;have p:=Fk (w.heap.size+1) 6 hb;have G:At b (w.heap.size+1) 7 (I 0):=Qa hb ε;have q:=Fk (w.heap.size+1) 7 hb;have H:At b (w.heap.size+1) 8 (I 0):=Qa hb ε;have r:=Fk (w.heap.size+1) 8 hb;have J:At b (w.heap.size+1) 9 (I 0):=Qa hb ε;have s:=Fk (w.heap.size+1) 9 hb;have t:At b (w.heap.size+1) 10 (I 0):=Qa hb ε;have c:=Fk (w.heap.size+1) 10 hb;have u:At b (w.heap.size+1) 11 (I 0):=Qa hb ε;have d:=Fk (w.heap.size+1) 11 hb;have z:w.heap.size+1<b.heap.size:=World.block_lt_of_cell? (w:=b) (a:=⟨w.heap.size+1,0,none⟩) r0;have A:w.heap.size+1<b.heap.size+1:=γ;have B:w.heap.size+1<b.heap.size+1+1:=γ;have C:w.heap.size+1<b.heap.size+1+1+1:=γ;have f:=Hd (Qb β2 hb);clear hb)
 refine bodyPost_ret (v:=.agg #[I (ue0 x y k),I (ue1 x y k),I (ue2 x y k),I (ue3 x y k),I (ue4 x y k),I (ue5 x y k),I (ue6 x y k),I (ue7 x y k),I (ue8 x y k),I (ue9 x y k),I (ue10 x y k),I (ue11 x y k)]) ?_ rfl ⟨rfl, ?_⟩
 ·first | (simp [results,Tryz.results136,go_sem, *];done) | (simp [results,Tryz.results136,go_sem,Ca, *];done)
 ·with_reducible repeat' (first | exact f.out | refine Qk ?_ ?_ | refine Qc ?_ | refine Qe ?_)
  all_goals (first | omega | (simp;done) | (simp;omega))
end Go.Proofs.YtbjmnlefkbhbdaaGreatDoor
