/- A part of it. -/
import Derived.Test.YtbjmnlefkbhbdaaGreatDoorQlaa
set_option maxRecDepth 100000
set_option maxHeartbeats 40000000
namespace Go.Proofs.YtbjmnlefkbhbdaaGreatDoor
open Go.RowKit
variable {w:World} {a p:Addr} {v:Value}
theorem Zo {a b c d e f:Int} (h:mapB a b c d e f=true):Sm a b c d∧Ef e f∧e % 2=0∧f % 2=0:=by
 simp [mapB,unitB,evenB] at h;unfold Sm Ef;omega
theorem answerMap_55_0 (a b c d e f:Int) (pa pb:Nat) (w:World) (h:∀ W:World,Bl w W→Rt 94 #[.pointer (Az pa),.pointer (Az pb)] W (.tuple #[.agg #[I a,I b,I c,I d,I e,I f],I 0])) :
  Rt 60 #[.bool true,.func (.func 94) #[] #[.pointer (Az pa),.pointer (Az pb)]] w (.tuple #[.agg #[I a,I b,I c,I d,I e,I f],I 0]):=by
 have j:=Hd h;clear h;go_enter Tryz.func60,Tryz.ntmps60;go_wp2_with (go_at_call 94;refine (j.out _ β2).mono ?_;rintro r g ⟨rfl,hb⟩;have r0:At g w.heap.size 0 (I 0):=Qa hb ε;have k:=Fk w.heap.size 0 hb;have r1:At g w.heap.size 1 (I 0):=Qa hb ε;have l:=Fk w.heap.size 1 hb;have r2:At g w.heap.size 2 (I 0):=Qa hb ε;have m:=Fk w.heap.size 2 hb;have r3:At g w.heap.size 3 (I 0):=Qa hb ε;have n:=Fk w.heap.size 3 hb;have z:At g w.heap.size 4 (I 0):=Qa hb ε;have o:=Fk w.heap.size 4 hb;have A:At g w.heap.size 5 (I 0):=Qa hb ε;have p:=Fk w.heap.size 5 hb;have q:w.heap.size<g.heap.size:=World.block_lt_of_cell? (w:=g) (a:=⟨w.heap.size,0,none⟩) r0;have s:w.heap.size<g.heap.size+1:=γ;have t:w.heap.size<g.heap.size+1+1:=γ;have u:w.heap.size<g.heap.size+1+1+1:=γ;have x:w.heap.size<g.heap.size+1+1+1+1:=γ;have y:w.heap.size<g.heap.size+1+1+1+1+1:=γ;have i:=Hd (Qb β2 hb);clear hb)
 refine bodyPost_ret (v:=.tuple #[.agg #[I a,I b,I c,I d,I e,I f],I 0]) ?_ rfl ⟨rfl, ?_⟩
 ·first | (simp [results,Tryz.results60,go_sem, *];done) | (simp [results,Tryz.results60,go_sem,Ca, *];done)
 ·with_reducible repeat' (first | exact i.out | refine Qk ?_ ?_ | refine Qc ?_ | refine Qe ?_)
  all_goals (first | (simp;done) | (simp;omega))
theorem answerMap_55_2 (pa pb:Nat) (w:World) (c:∀ W:World,Bl w W→Rt 94 #[.pointer (Az pa),.pointer (Az pb)] W (.tuple #[.agg #[I 0,I 0,I 0,I 0,I 0,I 0],I 2])) :
  Rt 60 #[.bool true,.func (.func 94) #[] #[.pointer (Az pa),.pointer (Az pb)]] w (.tuple #[.agg #[I 0,I 0,I 0,I 0,I 0,I 0],I 2]):=by
 have e:=Hd c;clear c;go_enter Tryz.func60,Tryz.ntmps60;go_wp2_with (go_at_call 94;refine (e.out _ β2).mono ?_;rintro r b ⟨rfl,hb⟩;have r0:At b w.heap.size 0 (I 0):=Qa hb ε;have f:=Fk w.heap.size 0 hb;have r1:At b w.heap.size 1 (I 0):=Qa hb ε;have g:=Fk w.heap.size 1 hb;have r2:At b w.heap.size 2 (I 0):=Qa hb ε;have h:=Fk w.heap.size 2 hb;have r3:At b w.heap.size 3 (I 0):=Qa hb ε;have i:=Fk w.heap.size 3 hb;have J:At b w.heap.size 4 (I 0):=Qa hb ε;have j:=Fk w.heap.size 4 hb;have K:At b w.heap.size 5 (I 0):=Qa hb ε;have k:=Fk w.heap.size 5 hb;have A:w.heap.size<b.heap.size:=World.block_lt_of_cell? (w:=b) (a:=⟨w.heap.size,0,none⟩) r0;have B:w.heap.size<b.heap.size+1:=γ;have C:w.heap.size<b.heap.size+1+1:=γ;have D:w.heap.size<b.heap.size+1+1+1:=γ;have E:w.heap.size<b.heap.size+1+1+1+1:=γ;have F:w.heap.size<b.heap.size+1+1+1+1+1:=γ;have k0:At b (w.heap.size+1) 0 (I 0):=Qa hb ε;have l:=Fk (w.heap.size+1) 0 hb;have k1:At b (w.heap.size+1) 1 (I 0):=Qa hb ε;have m:=Fk (w.heap.size+1) 1 hb;have k2:At b (w.heap.size+1) 2 (I 0):=Qa hb ε;have n:=Fk (w.heap.size+1) 2 hb;have k3:At b (w.heap.size+1) 3 (I 0):=Qa hb ε;have o:=Fk (w.heap.size+1) 3 hb;have G:At b (w.heap.size+1) 4 (I 0):=Qa hb ε;have p:=Fk (w.heap.size+1) 4 hb;have H:At b (w.heap.size+1) 5 (I 0):=Qa hb ε;have q:=Fk (w.heap.size+1) 5 hb;have s:w.heap.size+1<b.heap.size:=World.block_lt_of_cell? (w:=b) (a:=⟨w.heap.size+1,0,none⟩) k0;have t:w.heap.size+1<b.heap.size+1:=γ;have u:w.heap.size+1<b.heap.size+1+1:=γ;have x:w.heap.size+1<b.heap.size+1+1+1:=γ;have y:w.heap.size+1<b.heap.size+1+1+1+1:=γ;have z:w.heap.size+1<b.heap.size+1+1+1+1+1:=γ;have d:=Hd (Qb β2 hb);clear hb)
 refine bodyPost_ret (v:=.tuple #[.agg #[I 0,I 0,I 0,I 0,I 0,I 0],I 2]) ?_ rfl ⟨rfl, ?_⟩
 ·first | (simp [results,Tryz.results60,go_sem, *];done) | (simp [results,Tryz.results60,go_sem,Ca, *];done)
 ·with_reducible repeat' (first | exact d.out | refine Qk ?_ ?_ | refine Qc ?_ | refine Qe ?_)
  all_goals (first | (simp;done) | (simp;omega))
theorem after1_yes (a b c d e f A B C D E F:Int) (pa pb:Nat) (w:World) (h1:mapB a b c d e f=true) (h2:mapB A B C D E F=true) (j:mapB (dot A B a c) (dot A B b d) (dot C D a c) (dot C D b d) (dot A B e f+E) (dot C D e f+F)=true) (i:Mp w pa a b c d e f) (hb:Mp w pb A B C D E F) :
  Rt 94 #[.pointer (Az pa),.pointer (Az pb)] w (.tuple #[.agg #[I (dot A B a c),I (dot A B b d),I (dot C D a c),I (dot C D b d),I (dot A B e f+E),I (dot C D e f+F)],I 0]):=by
 obtain ⟨k,e1,_,_⟩:=Zo h1;obtain ⟨l,e2,_,_⟩:=Zo h2;have za:=i.lt;have P:=hb.lt;obtain ⟨a0,a1,K,a3,a4,a5⟩:=i;obtain ⟨b0,b1,b2,b3,b4,L⟩:=hb;have h:=Hd (fun (W:World)=>after_any a b c d e f A B C D E F W k l e1 e2);have n:=Hd j;clear k e1 l e2 h1 h2 j;go_enter Tryz.func94,Tryz.ntmps94;go_wp2_with (first | (go_at_call 95;refine (h.out _).mono ?_;rintro r g ⟨rfl,hb⟩;have r0:At g w.heap.size 0 (I 0):=Qa hb ε;have o:=Fk w.heap.size 0 hb;have r1:At g w.heap.size 1 (I 0):=Qa hb ε;have p:=Fk w.heap.size 1 hb;have r2:At g w.heap.size 2 (I 0):=Qa hb ε;have q:=Fk w.heap.size 2 hb;have r3:At g w.heap.size 3 (I 0):=Qa hb ε;have s:=Fk w.heap.size 3 hb;have M:At g w.heap.size 4 (I 0):=Qa hb ε;have t:=Fk w.heap.size 4 hb;have N:At g w.heap.size 5 (I 0):=Qa hb ε;have u:=Fk w.heap.size 5 hb;have x:w.heap.size<g.heap.size:=World.block_lt_of_cell? (w:=g) (a:=⟨w.heap.size,0,none⟩) r0;have y:w.heap.size<g.heap.size+1:=γ;have z:w.heap.size<g.heap.size+1+1:=γ;have G:w.heap.size<g.heap.size+1+1+1:=γ;have H:w.heap.size<g.heap.size+1+1+1+1:=γ;have J:w.heap.size<g.heap.size+1+1+1+1+1:=γ;have m:=Hd (Qb β1 hb);clear hb) | (go_at_call 62;refine (sized_yes _ _ _ _ _ _ _ n.out).mono ?_;rintro r O ⟨rfl,o1,o2,o3,rfl⟩))
 refine bodyPost_ret (v:=.tuple #[.agg #[I (dot A B a c),I (dot A B b d),I (dot C D a c),I (dot C D b d),I (dot A B e f+E),I (dot C D e f+F)],I 0]) ?_ rfl ⟨rfl, ?_⟩
 ·first | (simp [results,Tryz.results94,go_sem, *];done) | (simp [results,Tryz.results94,go_sem,Ca, *];done)
 ·with_reducible repeat' (first | exact m.out | refine Qk ?_ ?_ | refine Qc ?_ | refine Qe ?_)
  all_goals (first | (simp;done) | (simp;omega))
theorem Vc (a b c d e f A B C D E F:Int) (w:World) (h1:mapB a b c d e f=true) (h2:mapB A B C D E F=true) (i:mapB (dot A B a c) (dot A B b d) (dot C D a c) (dot C D b d) (dot A B e f+E) (dot C D e f+F)=true) :
  Rt 64 #[.agg #[I a,I b,I c,I d,I e,I f],.agg #[I A,I B,I C,I D,I E,I F]] w (.tuple #[.agg #[I (dot A B a c),I (dot A B b d),I (dot C D a c),I (dot C D b d),I (dot A B e f+E),I (dot C D e f+F)],I 0]):=by
 have s:=Qy;have k:=Hd i;clear i;go_enter Tryz.func64,Tryz.ntmps64;go_wp2_with (first | (go_at_call 22;refine (Jy _ _ _ _ _ _ _).mono ?_;rintro r g ⟨rfl,o1,rfl⟩) | (go_at_call 60;refine (answerMap_55_0 _ _ _ _ _ _ _ _ _ (fun W h=>after1_yes a b c d e f A B C D E F _ _ W h1 h2 k.out (Mp.kept δ3 h) (Mp.kept δ3 h))).mono ?_;rintro r g ⟨rfl,hb⟩;have r0:At g (w.heap.size+1+1) 0 (I 0):=Qa hb ε;have l:=Fk (w.heap.size+1+1) 0 hb;have r1:At g (w.heap.size+1+1) 1 (I 0):=Qa hb ε;have m:=Fk (w.heap.size+1+1) 1 hb;have r2:At g (w.heap.size+1+1) 2 (I 0):=Qa hb ε;have n:=Fk (w.heap.size+1+1) 2 hb;have r3:At g (w.heap.size+1+1) 3 (I 0):=Qa hb ε;have o:=Fk (w.heap.size+1+1) 3 hb;have H:At g (w.heap.size+1+1) 4 (I 0):=Qa hb ε;have p:=Fk (w.heap.size+1+1) 4 hb;have J:At g (w.heap.size+1+1) 5 (I 0):=Qa hb ε;have q:=Fk (w.heap.size+1+1) 5 hb;have t:w.heap.size+1+1<g.heap.size:=World.block_lt_of_cell? (w:=g) (a:=⟨w.heap.size+1+1,0,none⟩) r0;have u:w.heap.size+1+1<g.heap.size+1:=γ;have x:w.heap.size+1+1<g.heap.size+1+1:=γ;have y:w.heap.size+1+1<g.heap.size+1+1+1:=γ;have z:w.heap.size+1+1<g.heap.size+1+1+1+1:=γ;have G:w.heap.size+1+1<g.heap.size+1+1+1+1+1:=γ;have j:=Hd (Qb β5 hb);clear hb))
 refine bodyPost_ret (v:=.tuple #[.agg #[I (dot A B a c),I (dot A B b d),I (dot C D a c),I (dot C D b d),I (dot A B e f+E),I (dot C D e f+F)],I 0]) ?_ rfl ⟨rfl, ?_⟩
 ·first | (simp [results,Tryz.results64,go_sem, *];done) | (simp [results,Tryz.results64,go_sem,Ca, *];done)
 ·with_reducible repeat' (first | exact j.out | refine Qk ?_ ?_ | refine Qc ?_ | refine Qe ?_)
  all_goals (first | (simp;done) | (simp;omega))
theorem after1_no (a b c d e f A B C D E F:Int) (pa pb:Nat) (w:World) (h1:mapB a b c d e f=true) (h2:mapB A B C D E F=true) (j:mapB (dot A B a c) (dot A B b d) (dot C D a c) (dot C D b d) (dot A B e f+E) (dot C D e f+F)=false) (i:Mp w pa a b c d e f) (hb:Mp w pb A B C D E F) :
  Rt 94 #[.pointer (Az pa),.pointer (Az pb)] w (.tuple #[.agg #[I 0,I 0,I 0,I 0,I 0,I 0],I 2]):=by
 obtain ⟨k,e1,_,_⟩:=Zo h1;obtain ⟨l,e2,_,_⟩:=Zo h2;have za:=i.lt;have P:=hb.lt;obtain ⟨a0,a1,K,a3,a4,a5⟩:=i;obtain ⟨b0,b1,b2,b3,b4,L⟩:=hb;have h:=Hd (fun (W:World)=>after_any a b c d e f A B C D E F W k l e1 e2);have n:=Hd j;clear k e1 l e2 h1 h2 j;go_enter Tryz.func94,Tryz.ntmps94;go_wp2_with (first | (go_at_call 95;refine (h.out _).mono ?_;rintro r g ⟨rfl,hb⟩;have r0:At g w.heap.size 0 (I 0):=Qa hb ε;have o:=Fk w.heap.size 0 hb;have r1:At g w.heap.size 1 (I 0):=Qa hb ε;have p:=Fk w.heap.size 1 hb;have r2:At g w.heap.size 2 (I 0):=Qa hb ε;have q:=Fk w.heap.size 2 hb;have r3:At g w.heap.size 3 (I 0):=Qa hb ε;have s:=Fk w.heap.size 3 hb;have M:At g w.heap.size 4 (I 0):=Qa hb ε;have t:=Fk w.heap.size 4 hb;have N:At g w.heap.size 5 (I 0):=Qa hb ε;have u:=Fk w.heap.size 5 hb;have x:w.heap.size<g.heap.size:=World.block_lt_of_cell? (w:=g) (a:=⟨w.heap.size,0,none⟩) r0;have y:w.heap.size<g.heap.size+1:=γ;have z:w.heap.size<g.heap.size+1+1:=γ;have G:w.heap.size<g.heap.size+1+1+1:=γ;have H:w.heap.size<g.heap.size+1+1+1+1:=γ;have J:w.heap.size<g.heap.size+1+1+1+1+1:=γ;have m:=Hd (Qb β1 hb);clear hb) | (go_at_call 62;refine (sized_no _ _ _ _ _ _ _ n.out).mono ?_;rintro r O ⟨rfl,o1,o2,o3,rfl⟩))
 refine bodyPost_ret (v:=.tuple #[.agg #[I 0,I 0,I 0,I 0,I 0,I 0],I 2]) ?_ rfl ⟨rfl, ?_⟩
 ·first | (simp [results,Tryz.results94,go_sem, *];done) | (simp [results,Tryz.results94,go_sem,Ca, *];done)
 ·with_reducible repeat' (first | exact m.out | refine Qk ?_ ?_ | refine Qc ?_ | refine Qe ?_)
  all_goals (first | (simp;done) | (simp;omega))
theorem After_no (a b c d e f A B C D E F:Int) (w:World) (h1:mapB a b c d e f=true) (h2:mapB A B C D E F=true) (i:mapB (dot A B a c) (dot A B b d) (dot C D a c) (dot C D b d) (dot A B e f+E) (dot C D e f+F)=false) :
  Rt 64 #[.agg #[I a,I b,I c,I d,I e,I f],.agg #[I A,I B,I C,I D,I E,I F]] w (.tuple #[.agg #[I 0,I 0,I 0,I 0,I 0,I 0],I 2]):=by
 have s:=Qy;have k:=Hd i;clear i;go_enter Tryz.func64,Tryz.ntmps64;go_wp2_with (first | (go_at_call 22;refine (Jy _ _ _ _ _ _ _).mono ?_;rintro r g ⟨rfl,o1,rfl⟩) | (go_at_call 60;refine (answerMap_55_2 _ _ _ (fun W h=>after1_no a b c d e f A B C D E F _ _ W h1 h2 k.out (Mp.kept δ3 h) (Mp.kept δ3 h))).mono ?_;rintro r g ⟨rfl,hb⟩;have r0:At g (w.heap.size+1+1) 0 (I 0):=Qa hb ε;have l:=Fk (w.heap.size+1+1) 0 hb;have r1:At g (w.heap.size+1+1) 1 (I 0):=Qa hb ε;have m:=Fk (w.heap.size+1+1) 1 hb;have r2:At g (w.heap.size+1+1) 2 (I 0):=Qa hb ε;have n:=Fk (w.heap.size+1+1) 2 hb;have r3:At g (w.heap.size+1+1) 3 (I 0):=Qa hb ε;have o:=Fk (w.heap.size+1+1) 3 hb;have H:At g (w.heap.size+1+1) 4 (I 0):=Qa hb ε;have p:=Fk (w.heap.size+1+1) 4 hb;have J:At g (w.heap.size+1+1) 5 (I 0):=Qa hb ε;have q:=Fk (w.heap.size+1+1) 5 hb;have t:w.heap.size+1+1<g.heap.size:=World.block_lt_of_cell? (w:=g) (a:=⟨w.heap.size+1+1,0,none⟩) r0;have u:w.heap.size+1+1<g.heap.size+1:=γ;have x:w.heap.size+1+1<g.heap.size+1+1:=γ;have y:w.heap.size+1+1<g.heap.size+1+1+1:=γ;have z:w.heap.size+1+1<g.heap.size+1+1+1+1:=γ;have G:w.heap.size+1+1<g.heap.size+1+1+1+1+1:=γ;have j:=Hd (Qb β5 hb);clear hb))
 refine bodyPost_ret (v:=.tuple #[.agg #[I 0,I 0,I 0,I 0,I 0,I 0],I 2]) ?_ rfl ⟨rfl, ?_⟩
 ·first | (simp [results,Tryz.results64,go_sem, *];done) | (simp [results,Tryz.results64,go_sem,Ca, *];done)
 ·with_reducible repeat' (first | exact j.out | refine Qk ?_ ?_ | refine Qc ?_ | refine Qe ?_)
  all_goals (first | (simp;done) | (simp;omega))
attribute [local go_sem ↓] Go.wp_at_zero Go.wp_at_succ
theorem half (X:Int):(2*X).tdiv 2=X:=by rw [Int.mul_comm];exact Int.mul_tdiv_cancel _ τ
theorem Ya {c:World} {b:Bool} (hb:Bl w c) (d:w.cell? a=some v) (h:w.frozen? a=b):c.frozen? a=b:=(hb.frozen (bk d)).trans h
theorem st_old {u:Value} (h:w.cell? a=some v) (b:a.block≠p.block):(w.setCell p u).cell? a=some v:=by
 have:=World.cell?_of_block (w:=w) (w':=w.setCell p u) (a:=a) (Below.heap_setCell w p u a.block b);exact this.trans h
theorem Xy {q r:Addr} {c d e:Value} (h:w.cell? a=some v) (b:a.block≠p.block∧a.block≠q.block∧a.block≠r.block):(((w.setCell p c).setCell q d).setCell r e).cell? a=some v :=
 st_old (st_old (st_old h b.1) b.2.1) b.2.2
theorem Steps.set3 {q r:Addr} {k l m:Value} (h:Steps w) (a:0≠p.block∧0≠q.block∧0≠r.block):Steps (((w.setCell p k).setCell q l).setCell r m):=by
 obtain ⟨b,c,d,e,f,g,i,j⟩:=h;exact ⟨Xy b a,Xy c a,Xy d a,Xy e a,Xy f a,Xy g a,Xy i a,Xy j a⟩
theorem dr_fz {b:Bool} (h:w.frozen? a=b):w.drew.frozen? a=b:=h
theorem Gj {n:Int} (h1 : -9000000000000000000≤n) (h2:n≤9000000000000000000):IntKind.i64.wrap n=n:=υ
theorem turn_to (a b c d e f x y p q:Int) (w:World) (hs:Sm a b c d) (h1 : -4000000≤x) (h2:x≤4000000) (h3 : -4000000≤y) (h4:y≤4000000) (hp:dot a b x y=p) (hq:dot c d x y=q) :
  Rt 56 #[.agg #[I a,I b,I c,I d,I e,I f],.agg #[I x,I y]] w (.agg #[I p,I q]):=by
 subst hp hq;refine (turn_any a b c d e f x y w hs h1 h2 h3 h4).mono ?_;rintro r w' ⟨rfl,o1,o2,o3,rfl⟩;exact ⟨rfl,Qc β2⟩
attribute [local go_sem ↓] Go.wp_at_zero Go.wp_at_succ
theorem Yw (w:World) (hs:Steps w) :
  Rt 57 #[I 0] w (.agg #[I 0,I (-1)]):=by
 obtain ⟨b,h,i,j,k,l,m,n⟩:=hs;have d:0<w.heap.size:=Je b;have a:¬ w.heap.size=0:=γ;go_enter Tryz.func57,Tryz.ntmps57;go_wp2
 go_region_held3 (fun w'=>At w' 0 0 (I (-1))∧At w' 0 1 (I (-1))∧At w' 0 2 (I 1)∧At w' 0 3 (I (-1)))
  ((refine ⟨?_, ?_, ?_, ?_⟩ <;> (first | (with_reducible (repeat (first | assumption | refine Ql ?_ | refine Qi ?_));done) | (simp [go_sem,Ca, *];done))))
  (first | (go_at_call 58;refine (Xg _ _ _ _ _ γ γ γ γ γ γ γ γ).mono ?_;rintro e c ⟨rfl,o3,f,g,rfl⟩) | (go_at_call 59;refine (Jv _ _ _ γ γ γ γ).mono ?_;rintro e c ⟨rfl,rfl⟩))
 all_goals
  go_wp2;refine bodyPost_ret (v:=.agg #[I 0,I (-1)]) (by simp [results,Tryz.results57,go_sem,Ca]) rfl ⟨rfl, ?_⟩;with_reducible repeat (first | refine Qc ?_ | refine Qe ?_ | exact Qd _)
theorem Zv (w:World) (hs:Steps w) :
  Rt 57 #[I 1] w (.agg #[I 1,I 0]):=by
 obtain ⟨b,h,i,j,k,l,m,n⟩:=hs;have d:0<w.heap.size:=Je b;have a:¬ w.heap.size=0:=γ;go_enter Tryz.func57,Tryz.ntmps57;go_wp2
 go_region_held3 (fun w'=>At w' 0 2 (I 1)∧At w' 0 3 (I (-1))∧At w' 0 4 (I 1)∧At w' 0 5 (I 1))
  ((refine ⟨?_, ?_, ?_, ?_⟩ <;> (first | (with_reducible (repeat (first | assumption | refine Ql ?_ | refine Qi ?_));done) | (simp [go_sem,Ca, *];done))))
  (first | (go_at_call 58;refine (Xg _ _ _ _ _ γ γ γ γ γ γ γ γ).mono ?_;rintro e c ⟨rfl,o3,f,g,rfl⟩) | (go_at_call 59;refine (Jv _ _ _ γ γ γ γ).mono ?_;rintro e c ⟨rfl,rfl⟩))
 all_goals
  go_wp2;refine bodyPost_ret (v:=.agg #[I 1,I 0]) (by simp [results,Tryz.results57,go_sem,Ca]) rfl ⟨rfl, ?_⟩;with_reducible repeat (first | refine Qc ?_ | refine Qe ?_ | exact Qd _)
theorem Us (w:World) (hs:Steps w) :
  Rt 57 #[I 2] w (.agg #[I 0,I 1]):=by
 obtain ⟨b,h,i,j,k,l,m,n⟩:=hs;have d:0<w.heap.size:=Je b;have a:¬ w.heap.size=0:=γ;go_enter Tryz.func57,Tryz.ntmps57;go_wp2
 go_region_held3 (fun w'=>At w' 0 4 (I 1)∧At w' 0 5 (I 1)∧At w' 0 6 (I (-1))∧At w' 0 7 (I 1))
  ((refine ⟨?_, ?_, ?_, ?_⟩ <;> (first | (with_reducible (repeat (first | assumption | refine Ql ?_ | refine Qi ?_));done) | (simp [go_sem,Ca, *];done))))
  (first | (go_at_call 58;refine (Xg _ _ _ _ _ γ γ γ γ γ γ γ γ).mono ?_;rintro e c ⟨rfl,o3,f,g,rfl⟩) | (go_at_call 59;refine (Jv _ _ _ γ γ γ γ).mono ?_;rintro e c ⟨rfl,rfl⟩))
 all_goals
  go_wp2;refine bodyPost_ret (v:=.agg #[I 0,I 1]) (by simp [results,Tryz.results57,go_sem,Ca]) rfl ⟨rfl, ?_⟩;with_reducible repeat (first | refine Qc ?_ | refine Qe ?_ | exact Qd _)
theorem outward_3 (w:World) (hs:Steps w) :
  Rt 57 #[I 3] w (.agg #[I (-1),I 0]):=by
 obtain ⟨b,h,i,j,k,l,m,n⟩:=hs;have d:0<w.heap.size:=Je b;have a:¬ w.heap.size=0:=γ;go_enter Tryz.func57,Tryz.ntmps57;go_wp2
 go_region_held3 (fun w'=>At w' 0 6 (I (-1))∧At w' 0 7 (I 1)∧At w' 0 0 (I (-1))∧At w' 0 1 (I (-1)))
  ((refine ⟨?_, ?_, ?_, ?_⟩ <;> (first | (with_reducible (repeat (first | assumption | refine Ql ?_ | refine Qi ?_));done) | (simp [go_sem,Ca, *];done))))
  (first | (go_at_call 58;refine (Xg _ _ _ _ _ γ γ γ γ γ γ γ γ).mono ?_;rintro e c ⟨rfl,o3,f,g,rfl⟩) | (go_at_call 59;refine (Jv _ _ _ γ γ γ γ).mono ?_;rintro e c ⟨rfl,rfl⟩))
 all_goals
  go_wp2;refine bodyPost_ret (v:=.agg #[I (-1),I 0]) (by simp [results,Tryz.results57,go_sem,Ca]) rfl ⟨rfl, ?_⟩;with_reducible repeat (first | refine Qc ?_ | refine Qe ?_ | exact Qd _)
theorem outward_any (k:Int) (w:World) (h0:0≤k) (h3:k≤3) (hs:Steps w) :
  Rt 57 #[I k] w (.agg #[I (outX k),I (outY k)]):=by
 have a:k=0∨k=1∨k=2∨k=3:=γ;rcases a with rfl | rfl | rfl | rfl
 ·exact Yw w hs
 ·exact Zv w hs
 ·exact Us w hs
 ·exact outward_3 w hs
theorem kindToward_0 (w:World) (hs:Steps w) :
  Rt 55 #[.agg #[I 0,I (-1)]] w (I 0):=by
 have b:Steps (w.alloc (.cells #[I 0,I (-1)] 75)):=hs.kept β1;have c:Pt (w.alloc (.cells #[I 0,I (-1)] 75)) w.heap.size 0 (-1):=by simp [Pt,go_sem]
 obtain ⟨f,g⟩:=c;clear hs;go_enter Tryz.func55,Tryz.ntmps55;go_wp2;refine wp_loop_rounds 5 ?_;rw [rounds_succ];go_wp2
 go_region_held3 (fun w'=>At w' w.heap.size 0 (I 0)∧At w' w.heap.size 1 (I (-1))∧Steps w')
  ((go_split_ands;refine ⟨?_, ?_, ?_⟩ <;> (first | assumption | (refine Qi ?_;assumption) | (exact Qa π π) | (exact Steps.kept π π) | (exact Steps.kept (w:=_) π (Qe (Qd _))))))
  (first | (go_at_call 57;refine (Yw _ φ).mono ?_;rintro e d ⟨rfl,a⟩))
 go_wp2;go_ret;exact ⟨rfl,Qb (Qe β1) a⟩
theorem kindToward_1 (w:World) (hs:Steps w) :
  Rt 55 #[.agg #[I 1,I 0]] w (I 1):=by
 have c:Steps (w.alloc (.cells #[I 1,I 0] 75)):=hs.kept β1;have d:Pt (w.alloc (.cells #[I 1,I 0] 75)) w.heap.size 1 0:=by simp [Pt,go_sem]
 obtain ⟨h,i⟩:=d;clear hs;go_enter Tryz.func55,Tryz.ntmps55;go_wp2;refine wp_loop_rounds 5 ?_;rw [rounds_succ];go_wp2
 go_region_held3 (fun w'=>At w' w.heap.size 0 (I 1)∧At w' w.heap.size 1 (I 0)∧Steps w')
  ((go_split_ands;refine ⟨?_, ?_, ?_⟩ <;> (first | assumption | (refine Qi ?_;assumption) | (exact Qa π π) | (exact Steps.kept π π) | (exact Steps.kept (w:=_) π (Qe (Qd _))))))
  (first | (go_at_call 57;refine (Yw _ φ).mono ?_;rintro e f ⟨rfl,a⟩))
 go_wp2;rw [rounds_succ];go_wp2
 go_region_held3 (fun w'=>At w' w.heap.size 0 (I 1)∧At w' w.heap.size 1 (I 0)∧Steps w')
  ((go_split_ands;refine ⟨?_, ?_, ?_⟩ <;> (first | assumption | (refine Qi ?_;assumption) | (exact Qa π π) | (exact Steps.kept π π) | (exact Steps.kept (w:=_) π (Qe (Qd _))))))
  (first | (go_at_call 57;refine (Zv _ φ).mono ?_;rintro e g ⟨rfl,b⟩))
 go_wp2;go_ret;exact ⟨rfl,Qb (Qe (Qb (Qe β1) a)) b⟩
theorem kindToward_2 (w:World) (hs:Steps w) :
  Rt 55 #[.agg #[I 0,I 1]] w (I 2):=by
 have d:Steps (w.alloc (.cells #[I 0,I 1] 75)):=hs.kept β1;have f:Pt (w.alloc (.cells #[I 0,I 1] 75)) w.heap.size 0 1:=by simp [Pt,go_sem]
 obtain ⟨j,k⟩:=f;clear hs;go_enter Tryz.func55,Tryz.ntmps55;go_wp2;refine wp_loop_rounds 5 ?_;rw [rounds_succ];go_wp2
 go_region_held3 (fun w'=>At w' w.heap.size 0 (I 0)∧At w' w.heap.size 1 (I 1)∧Steps w')
  ((go_split_ands;refine ⟨?_, ?_, ?_⟩ <;> (first | assumption | (refine Qi ?_;assumption) | (exact Qa π π) | (exact Steps.kept π π) | (exact Steps.kept (w:=_) π (Qe (Qd _))))))
  (first | (go_at_call 57;refine (Yw _ φ).mono ?_;rintro e g ⟨rfl,a⟩))
 go_wp2;rw [rounds_succ];go_wp2
 go_region_held3 (fun w'=>At w' w.heap.size 0 (I 0)∧At w' w.heap.size 1 (I 1)∧Steps w')
  ((go_split_ands;refine ⟨?_, ?_, ?_⟩ <;> (first | assumption | (refine Qi ?_;assumption) | (exact Qa π π) | (exact Steps.kept π π) | (exact Steps.kept (w:=_) π (Qe (Qd _))))))
  (first | (go_at_call 57;refine (Zv _ φ).mono ?_;rintro e h ⟨rfl,b⟩))
 go_wp2;rw [rounds_succ];go_wp2
 go_region_held3 (fun w'=>At w' w.heap.size 0 (I 0)∧At w' w.heap.size 1 (I 1)∧Steps w')
  ((go_split_ands;refine ⟨?_, ?_, ?_⟩ <;> (first | assumption | (refine Qi ?_;assumption) | (exact Qa π π) | (exact Steps.kept π π) | (exact Steps.kept (w:=_) π (Qe (Qd _))))))
  (first | (go_at_call 57;refine (Us _ φ).mono ?_;rintro e i ⟨rfl,c⟩))
 go_wp2;go_ret;exact ⟨rfl,Qb (Qe (Qb (Qe (Qb (Qe β1) a)) b)) c⟩
theorem kindToward_3 (w:World) (hs:Steps w) :
  Rt 55 #[.agg #[I (-1),I 0]] w (I 3):=by
 have f:Steps (w.alloc (.cells #[I (-1),I 0] 75)):=hs.kept β1;have g:Pt (w.alloc (.cells #[I (-1),I 0] 75)) w.heap.size (-1) 0:=by simp [Pt,go_sem]
 obtain ⟨l,m⟩:=g;clear hs;go_enter Tryz.func55,Tryz.ntmps55;go_wp2;refine wp_loop_rounds 5 ?_;rw [rounds_succ];go_wp2
 go_region_held3 (fun w'=>At w' w.heap.size 0 (I (-1))∧At w' w.heap.size 1 (I 0)∧Steps w')
  ((go_split_ands;refine ⟨?_, ?_, ?_⟩ <;> (first | assumption | (refine Qi ?_;assumption) | (exact Qa π π) | (exact Steps.kept π π) | (exact Steps.kept (w:=_) π (Qe (Qd _))))))
  (first | (go_at_call 57;refine (Yw _ φ).mono ?_;rintro e h ⟨rfl,a⟩))
 go_wp2;rw [rounds_succ];go_wp2
 go_region_held3 (fun w'=>At w' w.heap.size 0 (I (-1))∧At w' w.heap.size 1 (I 0)∧Steps w')
  ((go_split_ands;refine ⟨?_, ?_, ?_⟩ <;> (first | assumption | (refine Qi ?_;assumption) | (exact Qa π π) | (exact Steps.kept π π) | (exact Steps.kept (w:=_) π (Qe (Qd _))))))
  (first | (go_at_call 57;refine (Zv _ φ).mono ?_;rintro e i ⟨rfl,b⟩))
 go_wp2;rw [rounds_succ];go_wp2
 go_region_held3 (fun w'=>At w' w.heap.size 0 (I (-1))∧At w' w.heap.size 1 (I 0)∧Steps w')
  ((go_split_ands;refine ⟨?_, ?_, ?_⟩ <;> (first | assumption | (refine Qi ?_;assumption) | (exact Qa π π) | (exact Steps.kept π π) | (exact Steps.kept (w:=_) π (Qe (Qd _))))))
  (first | (go_at_call 57;refine (Us _ φ).mono ?_;rintro e j ⟨rfl,c⟩))
 go_wp2;rw [rounds_succ];go_wp2
 go_region_held3 (fun w'=>At w' w.heap.size 0 (I (-1))∧At w' w.heap.size 1 (I 0)∧Steps w')
  ((go_split_ands;refine ⟨?_, ?_, ?_⟩ <;> (first | assumption | (refine Qi ?_;assumption) | (exact Qa π π) | (exact Steps.kept π π) | (exact Steps.kept (w:=_) π (Qe (Qd _))))))
  (first | (go_at_call 57;refine (outward_3 _ φ).mono ?_;rintro e k ⟨rfl,d⟩))
 go_wp2;go_ret;exact ⟨rfl,Qb (Qe (Qb (Qe (Qb (Qe (Qb (Qe β1) a)) b)) c)) d⟩
theorem kindToward_any (K:Int) (w:World) (h0:0≤K) (h3:K≤3) (hs:Steps w) :
  Rt 55 #[.agg #[I (outX K),I (outY K)]] w (I K):=by
 have a:K=0∨K=1∨K=2∨K=3:=γ;rcases a with rfl | rfl | rfl | rfl
 ·exact kindToward_0 w hs
 ·exact kindToward_1 w hs
 ·exact kindToward_2 w hs
 ·exact kindToward_3 w hs
theorem move_any (a b c d e f x y k X Y K:Int) (w:World) (hs:Sm a b c d) (H:(-1000000≤e∧e≤1000000)∧(-1000000≤f∧f≤1000000)) (t:triB x y k=true) (n:Steps w)
  (F:dot a b (2*x+1) (2*y+1)+e=2*X+1) (G:dot c d (2*x+1) (2*y+1)+f=2*Y+1) (B:0≤K∧K≤3)
  (l:dot a b (outX k) (outY k)=outX K) (m:dot c d (outX k) (outY k)=outY K) :
  Cl 25 #[.agg #[I a,I b,I c,I d,I e,I f],.agg #[I x,I y,I k]] w fun r w' =>
   r=.returned (.agg #[I X,I Y,I K])∧Bl w w':=by
 have hb:0≤k∧k≤3∧-1000000≤x∧x≤1000000∧-1000000≤y∧y≤1000000:=by simpa [triB] using t
 obtain ⟨k0,k3,x1,x2,y1,y2⟩:=hb;have d1:=dot_bd (M:=2000001) hs.1.1 hs.1.2 hs.2.1.1 hs.2.1.2 (show -2000001≤2*x+1 by omega) γ (show -2000001≤2*y+1 by omega) γ;have d2:=dot_bd (M:=2000001) hs.2.2.1.1 hs.2.2.1.2 hs.2.2.2.1 hs.2.2.2.2 (show -2000001≤2*x+1 by omega) γ (show -2000001≤2*y+1 by omega) γ;have X1 : -3000000≤X∧X≤3000000:=γ;have Y1 : -3000000≤Y∧Y≤3000000:=γ;have z:=Hd hs;have u:=Hd H;have HX:=Hd F;have P:=Hd G;have p:=Hd l;have q:=Hd m;have O:=Hd n;have s:=Hd t;have hx:=half X;have hy:=half Y;clear hs H F G l m n t d1 d2;go_enter Tryz.func25,Tryz.ntmps25;go_wp2;go_cut [5] (fun s5 j=>∃ g5:Nat,s5=.pointer (Az g5)∧w.heap.size+1+1<g5∧Pt j g5 (2*X+1) (2*Y+1)∧Bl w j∧Mp j w.heap.size a b c d e f∧Tr j (w.heap.size+1) x y k∧Tr j (w.heap.size+1+1) 0 0 0∧Fr j (w.heap.size+1+1))
 case first =>
  go_region_held3 (fun w'=>(At w' w.heap.size 0 (I a)∧At w' w.heap.size 1 (I b)∧At w' w.heap.size 2 (I c)∧At w' w.heap.size 3 (I d)∧At w' w.heap.size 4 (I e)∧At w' w.heap.size 5 (I f))∧At w' (w.heap.size+1) 0 (I x)∧At w' (w.heap.size+1) 1 (I y)∧At w' (w.heap.size+1) 2 (I k))
   ((refine ⟨⟨?_, ?_, ?_, ?_, ?_, ?_⟩, ?_, ?_, ?_⟩ <;> (first | (with_reducible (repeat (first | assumption | refine Ql ?_ | refine Qi ?_));done) | (simp [go_sem];done))))
   (first | (go_at_call 54;refine (Yh _ _ _ _ s.out).mono ?_;rintro e L ⟨rfl,o3,o4,rfl⟩) | (go_at_call 53;refine (image_any _ _ _ _ _ _ _ _ _ z.out u.out.1 u.out.2 γ γ γ γ).mono ?_;rintro e L ⟨rfl,o5,o6,o7,o8,o9,W,Z,a2,a6,rfl⟩))
  all_goals
   go_wp2;go_meet
   case rel =>
    refine ⟨_,rfl,γ, ?_, ?_, ?_, ?_, ?_, ?_⟩
    ·simp [Pt,go_sem,Ca,HX.out,P.out]
    ·with_reducible repeat (first | refine Qc ?_ | refine Qe ?_ | exact Qd _)
    ·simp [Mp,go_sem,Ca]
    ·simp [Tr,go_sem,Ca]
    ·simp [Tr,go_sem,Ca]
    ·simp [Fr,go_sem]
 case rest =>
  obtain ⟨g5,rfl,U,J,o,C,D,E,A⟩:=hcut;have hz:w.heap.size≤wc.heap.size:=o.size;have V:Steps wc:=O.out.kept o;obtain ⟨m0,m1,m2,m3,m4,m5⟩:=id C;obtain ⟨n0,n1,n2⟩:=id D;obtain ⟨r0,r1,r2⟩:=id E;obtain ⟨f0,f1,f2,_,_,_⟩:=id A;obtain ⟨q0,q1⟩:=id J;have N:=Hd o;clear o C D E A J;have ox:=outX_bd k;have oy:=outY_bd k;have wX:IntKind.i64.wrap (2*X)=2*X:=Gj γ γ;have wY:IntKind.i64.wrap (2*Y)=2*Y:=Gj γ γ;have ab:IntKind.i64.wrap X=X:=Gj γ γ;have ac:IntKind.i64.wrap Y=Y:=Gj γ γ;go_wp2
  go_region_held3 (fun w'=>At w' w.heap.size 0 (I a)∧At w' w.heap.size 1 (I b)∧At w' w.heap.size 2 (I c)∧At w' w.heap.size 3 (I d)∧At w' w.heap.size 4 (I e)∧At w' w.heap.size 5 (I f)∧At w' (w.heap.size+1) 2 (I k)∧At w' g5 0 (I (2*X+1))∧At w' g5 1 (I (2*Y+1))∧Steps w')
   ((go_split_ands;refine ⟨?_, ?_, ?_, ?_, ?_, ?_, ?_, ?_, ?_, ?_⟩ <;> (first | (with_reducible assumption) | (with_reducible exact Qa π π) | (with_reducible exact Steps.kept π π) | (with_reducible exact Qi π) | (with_reducible exact Steps.kept π (Qe (Qd _))) | (refine Xy γ0 θ) | (refine Steps.set3 γ0 θ))))
   (first | (go_at_call 57;refine (outward_any _ _ k0 k3 γ4).mono ?_;rintro e L ⟨rfl,g⟩) | (go_at_call 56;refine (turn_to _ _ _ _ _ _ _ _ _ _ _ z.out γ γ γ γ p.out q.out).mono ?_;rintro e w3 ⟨rfl,h⟩) | (go_at_call 55;refine (kindToward_any K _ B.1 B.2 γ4).mono ?_;rintro e w4 ⟨rfl,i⟩;have a7:=Qa i (Qa h (Qa g (Qi r0)));have a8:=Qa i (Qa h (Qa g (Qi r1)));have aa:=Qa i (Qa h (Qa g (Qi r2)));have Q:=Ya i (Qa h (Qa g (Qi r0))) (Ya h (Qa g (Qi r0)) (Ya g (Qi r0) (dr_fz f0)));have R:=Ya i (Qa h (Qa g (Qi r1))) (Ya h (Qa g (Qi r1)) (Ya g (Qi r1) (dr_fz f1)));have T:=Ya i (Qa h (Qa g (Qi r2))) (Ya h (Qa g (Qi r2)) (Ya g (Qi r2) (dr_fz f2)))))
  go_wp2;refine bodyPost_ret (v:=.agg #[I X,I Y,I K]) ?_ rfl ⟨rfl, ?_⟩
  ·simp [results,Tryz.results25,go_sem, *]
  ·exact Qk (Qk (Qk (Qb (Qb (Qb (Qe N.out) g) h) i) ψ) ψ) ψ
theorem Uk (f:Value) (w:World) :
  Cl 21 #[.bool false,f] w fun r w'=>r=.returned (.tuple #[.agg #[I 0,I 0,I 0],I 3])∧∃ o1 o2,w'=(w.alloc o1).alloc o2:=by
 go_enter Tryz.func21,Tryz.ntmps21;go_wp2;exact bodyPost_ret (v:=.tuple #[.agg #[I 0,I 0,I 0],I 3]) (by simp [results,Tryz.results21,go_sem]) rfl ⟨rfl,_,_,rfl⟩
theorem answerTri_59_0 (x y k:Int) (pa pt:Nat) (w:World) (b:∀ W:World,Bl w W→Rt 24 #[.pointer (Az pa),.pointer (Az pt)] W (.tuple #[.agg #[I x,I y,I k],I 0])) :
  Rt 21 #[.bool true,.func (.func 24) #[] #[.pointer (Az pa),.pointer (Az pt)]] w (.tuple #[.agg #[I x,I y,I k],I 0]):=by
 have e:=Hd b;clear b;go_enter Tryz.func21,Tryz.ntmps21;go_wp2_with (go_at_call 24;refine (e.out _ β2).mono ?_;rintro r c ⟨rfl,hb⟩;have r0:At c w.heap.size 0 (I 0):=Qa hb ε;have f:=Fk w.heap.size 0 hb;have r1:At c w.heap.size 1 (I 0):=Qa hb ε;have g:=Fk w.heap.size 1 hb;have r2:At c w.heap.size 2 (I 0):=Qa hb ε;have h:=Fk w.heap.size 2 hb;have i:w.heap.size<c.heap.size:=World.block_lt_of_cell? (w:=c) (a:=⟨w.heap.size,0,none⟩) r0;have j:w.heap.size<c.heap.size+1:=γ;have l:w.heap.size<c.heap.size+1+1:=γ;have m:w.heap.size<c.heap.size+1+1+1:=γ;have n:w.heap.size<c.heap.size+1+1+1+1:=γ;have o:w.heap.size<c.heap.size+1+1+1+1+1:=γ;have d:=Hd (Qb β2 hb);clear hb)
 refine bodyPost_ret (v:=.tuple #[.agg #[I x,I y,I k],I 0]) ?_ rfl ⟨rfl, ?_⟩
 ·first | (simp [results,Tryz.results21,go_sem, *];done) | (simp [results,Tryz.results21,go_sem,Ca, *];done)
 ·with_reducible repeat' (first | exact d.out | refine Qk ?_ ?_ | refine Qc ?_ | refine Qe ?_)
  all_goals (first | (simp;done) | (simp;omega))
theorem answerTri_59_2 (pa pt:Nat) (w:World) (c:∀ W:World,Bl w W→Rt 24 #[.pointer (Az pa),.pointer (Az pt)] W (.tuple #[.agg #[I 0,I 0,I 0],I 2])) :
  Rt 21 #[.bool true,.func (.func 24) #[] #[.pointer (Az pa),.pointer (Az pt)]] w (.tuple #[.agg #[I 0,I 0,I 0],I 2]):=by
 have e:=Hd c;clear c;go_enter Tryz.func21,Tryz.ntmps21;go_wp2_with (go_at_call 24;refine (e.out _ β2).mono ?_;rintro r b ⟨rfl,hb⟩;have r0:At b w.heap.size 0 (I 0):=Qa hb ε;have f:=Fk w.heap.size 0 hb;have r1:At b w.heap.size 1 (I 0):=Qa hb ε;have g:=Fk w.heap.size 1 hb;have r2:At b w.heap.size 2 (I 0):=Qa hb ε;have h:=Fk w.heap.size 2 hb;have s:w.heap.size<b.heap.size:=World.block_lt_of_cell? (w:=b) (a:=⟨w.heap.size,0,none⟩) r0;have t:w.heap.size<b.heap.size+1:=γ;have u:w.heap.size<b.heap.size+1+1:=γ;have x:w.heap.size<b.heap.size+1+1+1:=γ;have y:w.heap.size<b.heap.size+1+1+1+1:=γ;have z:w.heap.size<b.heap.size+1+1+1+1+1:=γ;have k0:At b (w.heap.size+1) 0 (I 0):=Qa hb ε;have i:=Fk (w.heap.size+1) 0 hb;have k1:At b (w.heap.size+1) 1 (I 0):=Qa hb ε;have j:=Fk (w.heap.size+1) 1 hb;have k2:At b (w.heap.size+1) 2 (I 0):=Qa hb ε;have k:=Fk (w.heap.size+1) 2 hb;have l:w.heap.size+1<b.heap.size:=World.block_lt_of_cell? (w:=b) (a:=⟨w.heap.size+1,0,none⟩) k0;have m:w.heap.size+1<b.heap.size+1:=γ;have n:w.heap.size+1<b.heap.size+1+1:=γ;have o:w.heap.size+1<b.heap.size+1+1+1:=γ;have p:w.heap.size+1<b.heap.size+1+1+1+1:=γ;have q:w.heap.size+1<b.heap.size+1+1+1+1+1:=γ;have d:=Hd (Qb β2 hb);clear hb)
 refine bodyPost_ret (v:=.tuple #[.agg #[I 0,I 0,I 0],I 2]) ?_ rfl ⟨rfl, ?_⟩
 ·first | (simp [results,Tryz.results21,go_sem, *];done) | (simp [results,Tryz.results21,go_sem,Ca, *];done)
 ·with_reducible repeat' (first | exact d.out | refine Qk ?_ ?_ | refine Qc ?_ | refine Qe ?_)
  all_goals (first | (simp;done) | (simp;omega))
theorem move1_yes (a b c d e f x y k X Y K:Int) (pa pt:Nat) (w:World) (h1:mapB a b c d e f=true) (h2:triB x y k=true) (m:dot a b (2*x+1) (2*y+1)+e=2*X+1) (n:dot c d (2*x+1) (2*y+1)+f=2*Y+1) (l:0≤K∧K≤3) (h:dot a b (outX k) (outY k)=outX K) (i:dot c d (outX k) (outY k)=outY K) (J:triB X Y K=true) (hs:Steps w) (o:Mp w pa a b c d e f) (p:Tr w pt x y k) :
  Rt 24 #[.pointer (Az pa),.pointer (Az pt)] w (.tuple #[.agg #[I X,I Y,I K],I 0]):=by
 obtain ⟨q,e1,_,_⟩:=Zo h1;have za:=o.lt;have M:=p.lt;obtain ⟨a0,a1,H,a3,a4,a5⟩:=o;obtain ⟨b0,b1,b2⟩:=p;have j:=Hd (fun (W:World) hW=>move_any a b c d e f x y k X Y K W q e1 h2 hW m n l h i);have t:=Hd hs;clear q e1 h1 h2 m n l h i hs;go_enter Tryz.func24,Tryz.ntmps24;go_wp2_with (first | (go_at_call 25;refine (j.out _ (t.out.kept β1)).mono ?_;rintro r g ⟨rfl,hb⟩;have r0:At g w.heap.size 0 (I 0):=Qa hb ε;have u:=Fk w.heap.size 0 hb;have r1:At g w.heap.size 1 (I 0):=Qa hb ε;have z:=Fk w.heap.size 1 hb;have r2:At g w.heap.size 2 (I 0):=Qa hb ε;have A:=Fk w.heap.size 2 hb;have B:w.heap.size<g.heap.size:=World.block_lt_of_cell? (w:=g) (a:=⟨w.heap.size,0,none⟩) r0;have C:w.heap.size<g.heap.size+1:=γ;have D:w.heap.size<g.heap.size+1+1:=γ;have E:w.heap.size<g.heap.size+1+1+1:=γ;have F:w.heap.size<g.heap.size+1+1+1+1:=γ;have G:w.heap.size<g.heap.size+1+1+1+1+1:=γ;have s:=Hd (Qb β1 hb);clear hb) | (go_at_call 23;refine (Jk _ _ _ _).mono ?_;rintro r L ⟨rfl,o1,rfl⟩))
 refine bodyPost_ret (v:=.tuple #[.agg #[I X,I Y,I K],I 0]) ?_ rfl ⟨rfl, ?_⟩
 ·first | (simp [results,Tryz.results24,go_sem, *];done) | (simp [results,Tryz.results24,go_sem,Ca, *];done)
 ·with_reducible repeat' (first | exact s.out | refine Qk ?_ ?_ | refine Qc ?_ | refine Qe ?_)
  all_goals (first | (simp;done) | (simp;omega))
theorem Move_yes (a b c d e f x y k X Y K:Int) (w:World) (h1:mapB a b c d e f=true) (h2:triB x y k=true) (m:dot a b (2*x+1) (2*y+1)+e=2*X+1) (n:dot c d (2*x+1) (2*y+1)+f=2*Y+1) (l:0≤K∧K≤3) (h:dot a b (outX k) (outY k)=outX K) (i:dot c d (outX k) (outY k)=outY K) (o:triB X Y K=true) (hs:Steps w) :
  Rt 8 #[.agg #[I a,I b,I c,I d,I e,I f],.agg #[I x,I y,I k]] w (.tuple #[.agg #[I X,I Y,I K],I 0]):=by
 have z:=Qy;have q:Hid (∀ (pa pt:Nat) (W:World),Bl w W→Mp W pa a b c d e f→Tr W pt x y k→Rt 24 #[.pointer (Az pa),.pointer (Az pt)] W (.tuple #[.agg #[I X,I Y,I K],I 0])):=fun pa pt W j hp A=>move1_yes a b c d e f x y k X Y K pa pt W h1 h2 m n l h i o (hs.kept j) hp A;clear m n l h i o hs;go_enter Tryz.func8,Tryz.ntmps8;go_wp2_with (first | (go_at_call 22;refine (Jy _ _ _ _ _ _ _).mono ?_;rintro r g ⟨rfl,o1,rfl⟩) | (go_at_call 23;refine (Jk _ _ _ _).mono ?_;rintro r H ⟨rfl,o2,rfl⟩) | (go_at_call 21;refine (answerTri_59_0 _ _ _ _ _ _ (fun W j=>q.out _ _ W (Qb β5 j) (Mp.kept δ3 j) (Tr.kept (by simp [Tr,go_sem]) j))).mono ?_;rintro r g ⟨rfl,hb⟩;have r0:At g (w.heap.size+1+1) 0 (I 0):=Qa hb ε;have s:=Fk (w.heap.size+1+1) 0 hb;have r1:At g (w.heap.size+1+1) 1 (I 0):=Qa hb ε;have t:=Fk (w.heap.size+1+1) 1 hb;have r2:At g (w.heap.size+1+1) 2 (I 0):=Qa hb ε;have u:=Fk (w.heap.size+1+1) 2 hb;have B:w.heap.size+1+1<g.heap.size:=World.block_lt_of_cell? (w:=g) (a:=⟨w.heap.size+1+1,0,none⟩) r0;have C:w.heap.size+1+1<g.heap.size+1:=γ;have D:w.heap.size+1+1<g.heap.size+1+1:=γ;have E:w.heap.size+1+1<g.heap.size+1+1+1:=γ;have F:w.heap.size+1+1<g.heap.size+1+1+1+1:=γ;have G:w.heap.size+1+1<g.heap.size+1+1+1+1+1:=γ;have p:=Hd (Qb β5 hb);clear hb))
 refine bodyPost_ret (v:=.tuple #[.agg #[I X,I Y,I K],I 0]) ?_ rfl ⟨rfl, ?_⟩
 ·first | (simp [results,Tryz.results8,go_sem, *];done) | (simp [results,Tryz.results8,go_sem,Ca, *];done)
 ·with_reducible repeat' (first | exact p.out | refine Qk ?_ ?_ | refine Qc ?_ | refine Qe ?_)
  all_goals (first | (simp;done) | (simp;omega))
theorem move1_no (a b c d e f x y k X Y K:Int) (pa pt:Nat) (w:World) (h1:mapB a b c d e f=true) (h2:triB x y k=true) (m:dot a b (2*x+1) (2*y+1)+e=2*X+1) (n:dot c d (2*x+1) (2*y+1)+f=2*Y+1) (l:0≤K∧K≤3) (h:dot a b (outX k) (outY k)=outX K) (i:dot c d (outX k) (outY k)=outY K) (J:triB X Y K=false) (hs:Steps w) (o:Mp w pa a b c d e f) (p:Tr w pt x y k) :
  Rt 24 #[.pointer (Az pa),.pointer (Az pt)] w (.tuple #[.agg #[I 0,I 0,I 0],I 2]):=by
 obtain ⟨q,e1,_,_⟩:=Zo h1;have za:=o.lt;have M:=p.lt;obtain ⟨a0,a1,H,a3,a4,a5⟩:=o;obtain ⟨b0,b1,b2⟩:=p;have j:=Hd (fun (W:World) hW=>move_any a b c d e f x y k X Y K W q e1 h2 hW m n l h i);have t:=Hd hs;clear q e1 h1 h2 m n l h i hs;go_enter Tryz.func24,Tryz.ntmps24;go_wp2_with (first | (go_at_call 25;refine (j.out _ (t.out.kept β1)).mono ?_;rintro r g ⟨rfl,hb⟩;have r0:At g w.heap.size 0 (I 0):=Qa hb ε;have u:=Fk w.heap.size 0 hb;have r1:At g w.heap.size 1 (I 0):=Qa hb ε;have z:=Fk w.heap.size 1 hb;have r2:At g w.heap.size 2 (I 0):=Qa hb ε;have A:=Fk w.heap.size 2 hb;have B:w.heap.size<g.heap.size:=World.block_lt_of_cell? (w:=g) (a:=⟨w.heap.size,0,none⟩) r0;have C:w.heap.size<g.heap.size+1:=γ;have D:w.heap.size<g.heap.size+1+1:=γ;have E:w.heap.size<g.heap.size+1+1+1:=γ;have F:w.heap.size<g.heap.size+1+1+1+1:=γ;have G:w.heap.size<g.heap.size+1+1+1+1+1:=γ;have s:=Hd (Qb β1 hb);clear hb) | (go_at_call 23;refine (Jk _ _ _ _).mono ?_;rintro r L ⟨rfl,o1,rfl⟩))
 refine bodyPost_ret (v:=.tuple #[.agg #[I 0,I 0,I 0],I 2]) ?_ rfl ⟨rfl, ?_⟩
 ·first | (simp [results,Tryz.results24,go_sem, *];done) | (simp [results,Tryz.results24,go_sem,Ca, *];done)
 ·with_reducible repeat' (first | exact s.out | refine Qk ?_ ?_ | refine Qc ?_ | refine Qe ?_)
  all_goals (first | (simp;done) | (simp;omega))
theorem Move_no (a b c d e f x y k X Y K:Int) (w:World) (h1:mapB a b c d e f=true) (h2:triB x y k=true) (m:dot a b (2*x+1) (2*y+1)+e=2*X+1) (n:dot c d (2*x+1) (2*y+1)+f=2*Y+1) (l:0≤K∧K≤3) (h:dot a b (outX k) (outY k)=outX K) (i:dot c d (outX k) (outY k)=outY K) (o:triB X Y K=false) (hs:Steps w) :
  Rt 8 #[.agg #[I a,I b,I c,I d,I e,I f],.agg #[I x,I y,I k]] w (.tuple #[.agg #[I 0,I 0,I 0],I 2]):=by
 have z:=Qy;have q:Hid (∀ (pa pt:Nat) (W:World),Bl w W→Mp W pa a b c d e f→Tr W pt x y k→Rt 24 #[.pointer (Az pa),.pointer (Az pt)] W (.tuple #[.agg #[I 0,I 0,I 0],I 2])):=fun pa pt W j hp A=>move1_no a b c d e f x y k X Y K pa pt W h1 h2 m n l h i o (hs.kept j) hp A;clear m n l h i o hs;go_enter Tryz.func8,Tryz.ntmps8;go_wp2_with (first | (go_at_call 22;refine (Jy _ _ _ _ _ _ _).mono ?_;rintro r g ⟨rfl,o1,rfl⟩) | (go_at_call 23;refine (Jk _ _ _ _).mono ?_;rintro r H ⟨rfl,o2,rfl⟩) | (go_at_call 21;refine (answerTri_59_2 _ _ _ (fun W j=>q.out _ _ W (Qb β5 j) (Mp.kept δ3 j) (Tr.kept (by simp [Tr,go_sem]) j))).mono ?_;rintro r g ⟨rfl,hb⟩;have r0:At g (w.heap.size+1+1) 0 (I 0):=Qa hb ε;have s:=Fk (w.heap.size+1+1) 0 hb;have r1:At g (w.heap.size+1+1) 1 (I 0):=Qa hb ε;have t:=Fk (w.heap.size+1+1) 1 hb;have r2:At g (w.heap.size+1+1) 2 (I 0):=Qa hb ε;have u:=Fk (w.heap.size+1+1) 2 hb;have B:w.heap.size+1+1<g.heap.size:=World.block_lt_of_cell? (w:=g) (a:=⟨w.heap.size+1+1,0,none⟩) r0;have C:w.heap.size+1+1<g.heap.size+1:=γ;have D:w.heap.size+1+1<g.heap.size+1+1:=γ;have E:w.heap.size+1+1<g.heap.size+1+1+1:=γ;have F:w.heap.size+1+1<g.heap.size+1+1+1+1:=γ;have G:w.heap.size+1+1<g.heap.size+1+1+1+1+1:=γ;have p:=Hd (Qb β5 hb);clear hb))
 refine bodyPost_ret (v:=.tuple #[.agg #[I 0,I 0,I 0],I 2]) ?_ rfl ⟨rfl, ?_⟩
 ·first | (simp [results,Tryz.results8,go_sem, *];done) | (simp [results,Tryz.results8,go_sem,Ca, *];done)
 ·with_reducible repeat' (first | exact p.out | refine Qk ?_ ?_ | refine Qc ?_ | refine Qe ?_)
  all_goals (first | (simp;done) | (simp;omega))
theorem Move_out (a b c d e f x y k:Int) (w:World) (h:mapB a b c d e f=false∨triB x y k=false) :
  Rt 8 #[.agg #[I a,I b,I c,I d,I e,I f],.agg #[I x,I y,I k]] w (.tuple #[.agg #[I 0,I 0,I 0],I 3]):=by
 have i:=Qy;by_cases h1:mapB a b c d e f=true
 ·have h2:triB x y k=false:=h.resolve_left (by simp [h1]);clear h;go_enter Tryz.func8,Tryz.ntmps8;go_wp2_with (first | (go_at_call 22;refine (Jy _ _ _ _ _ _ _).mono ?_;rintro r g ⟨rfl,o1,rfl⟩) | (go_at_call 23;refine (Jk _ _ _ _).mono ?_;rintro r j ⟨rfl,o2,rfl⟩) | (go_at_call 21;refine (Uk _ _).mono ?_;rintro r g ⟨rfl,o2,o3,rfl⟩))
  refine bodyPost_ret (v:=.tuple #[.agg #[I 0,I 0,I 0],I 3]) (by simp [results,Tryz.results8,go_sem,Ca]) rfl ⟨rfl, ?_⟩;with_reducible repeat (first | refine Qc ?_ | exact Qd _)
 ·have h2:mapB a b c d e f=false:=by simpa using h1
  clear h h1;go_enter Tryz.func8,Tryz.ntmps8;go_wp2_with (first | (go_at_call 22;refine (Jy _ _ _ _ _ _ _).mono ?_;rintro r g ⟨rfl,o1,rfl⟩) | (go_at_call 23;refine (Jk _ _ _ _).mono ?_;rintro r j ⟨rfl,o2,rfl⟩) | (go_at_call 21;refine (Uk _ _).mono ?_;rintro r g ⟨rfl,o2,o3,rfl⟩))
  refine bodyPost_ret (v:=.tuple #[.agg #[I 0,I 0,I 0],I 3]) (by simp [results,Tryz.results8,go_sem,Ca]) rfl ⟨rfl, ?_⟩;with_reducible repeat (first | refine Qc ?_ | exact Qd _)
theorem Ye (y a b:Int) (w:World) (h1 : -10000000≤a) (h2:a≤10000000) (h3 : -10000000≤b) (h4:b≤10000000) :
  Cl 30 #[I y,.agg #[I a,I b]] w fun e w'=>e=.returned (I (alongOf y a b))∧∃ o,w'=w.alloc o:=by
 go_enter Tryz.func30,Tryz.ntmps30;go_wp2
 all_goals
  go_ret;exact ⟨Ja (by simp_all [alongOf]),_,rfl⟩
theorem index3 (a b c d e f:Value) (w:World):(Instr.index 92 (.agg #[a,b,c,d,e,f]) (I 0)).run Tryz.prog w=.ok (.agg #[a,b]) w∧(Instr.index 92 (.agg #[a,b,c,d,e,f]) (I 1)).run Tryz.prog w=.ok (.agg #[c,d]) w∧(Instr.index 92 (.agg #[a,b,c,d,e,f]) (I 2)).run Tryz.prog w=.ok (.agg #[e,f]) w :=
 ⟨μ,μ,μ⟩
def sumN (v x y k:Int):Int:=alongOf v (2*x+1) (2*y+1)+alongOf v (c1x x k) (c1y y k)+alongOf v (c2x x k) (c2y y k)
theorem Zc (v a b:Int) (h1 : -10000000≤a) (h2:a≤10000000) (h3 : -10000000≤b) (h4:b≤10000000) : -20000000≤alongOf v a b∧alongOf v a b≤20000000:=by
 unfold alongOf;split <;> (try split) <;> (try split) <;> omega
theorem side1_t (v c x y k:Int) (pt pl:Nat) (w:World) (h:triB x y k=true) (hl:lineB v c=true) (hs:Steps w)
  (t0:At w pt 0 (I x)) (E:At w pt 1 (I y)) (F:At w pt 2 (I k))
  (l0:At w pl 0 (I v)) (l1:At w pl 1 (I c)) (b:3*c<sumN v x y k) :
  Rt 28 #[.pointer (Az pt),.pointer (Az pl)] w (.tuple #[I 1,I 0]):=by
 obtain ⟨_,_,b1,b2,b3,b4⟩:=tri_bd h
 have m : -1000000≤c∧c≤1000000:=by
  have:0≤v∧v≤3∧-1000000≤c∧c≤1000000∧c % 2=0:=by simpa [lineB] using hl
  omega
 obtain ⟨n,o⟩:=m;have g:=c1x_bd x k;have j:=c1y_bd y k;have i:=c2x_bd x k;have l:=c2y_bd y k;have v0:=Zc v (2*x+1) (2*y+1) γ γ γ γ;have L:=Zc v (c1x x k) (c1y y k) γ γ γ γ;have M:=Zc v (c2x x k) (c2y y k) γ γ γ γ;have hi:=fun w=>index3 (I (2*x+1)) (I (2*y+1)) (I (c1x x k)) (I (c1y y k)) (I (c2x x k)) (I (c2y y k)) w;have p:=fun w=>(hi w).1;have q:=fun w=>(hi w).2.1;have r:=fun w=>(hi w).2.2;clear hi;unfold sumN at b;go_enter Tryz.func28,Tryz.ntmps28;go_wp2_with (go_at_call 29;refine (Yn _ _ _ _ h hs).mono ?_;rintro e w1 ⟨rfl,a⟩)
 have H:At w1 pl 0 (I v):=Qr a l0;have J:At w1 pl 1 (I c):=Qr a l1;have G:pl<w.heap.size:=Je l0;have C:w.heap.size≤w1.heap.size:=a.size;have D:pl<w1.heap.size:=γ;have s:pl<w1.heap.size+1:=γ;have t:pl<w1.heap.size+1+1:=γ;have u:pl<w1.heap.size+1+1+1:=γ;have z:pl<w1.heap.size+1+1+1+1:=γ;have A:pl<w1.heap.size+1+1+1+1+1:=γ;have B:pl<w1.heap.size+1+1+1+1+1+1:=γ;have f:=Hd a;clear a t0 E F l0 l1 hs;refine wp_loop_rounds 4 ?_;rw [rounds_succ];go_wp2_with (go_at_call 30;refine (Ye _ _ _ _ γ γ γ γ).mono ?_;rintro e d ⟨rfl,o2,rfl⟩)
 rw [rounds_succ];go_wp2_with (go_at_call 30;refine (Ye _ _ _ _ γ γ γ γ).mono ?_;rintro e d ⟨rfl,o3,rfl⟩)
 rw [rounds_succ];go_wp2_with (go_at_call 30;refine (Ye _ _ _ _ γ γ γ γ).mono ?_;rintro e d ⟨rfl,K,rfl⟩)
 rw [rounds_succ];go_wp2;go_ret2
 refine ⟨rfl, ?_⟩;repeat (first | exact f.out | refine Below.alloc ?_ γ1 _)
theorem side1_f (v c x y k:Int) (pt pl:Nat) (w:World) (h:triB x y k=true) (hl:lineB v c=true) (hs:Steps w)
  (t0:At w pt 0 (I x)) (E:At w pt 1 (I y)) (F:At w pt 2 (I k))
  (l0:At w pl 0 (I v)) (l1:At w pl 1 (I c)) (b:sumN v x y k≤3*c) :
  Rt 28 #[.pointer (Az pt),.pointer (Az pl)] w (.tuple #[I (-1),I 0]):=by
 obtain ⟨_,_,b1,b2,b3,b4⟩:=tri_bd h
 have m : -1000000≤c∧c≤1000000:=by
  have:0≤v∧v≤3∧-1000000≤c∧c≤1000000∧c % 2=0:=by simpa [lineB] using hl
  omega
 obtain ⟨n,o⟩:=m;have g:=c1x_bd x k;have j:=c1y_bd y k;have i:=c2x_bd x k;have l:=c2y_bd y k;have v0:=Zc v (2*x+1) (2*y+1) γ γ γ γ;have L:=Zc v (c1x x k) (c1y y k) γ γ γ γ;have M:=Zc v (c2x x k) (c2y y k) γ γ γ γ;have hi:=fun w=>index3 (I (2*x+1)) (I (2*y+1)) (I (c1x x k)) (I (c1y y k)) (I (c2x x k)) (I (c2y y k)) w;have p:=fun w=>(hi w).1;have q:=fun w=>(hi w).2.1;have r:=fun w=>(hi w).2.2;clear hi;unfold sumN at b;go_enter Tryz.func28,Tryz.ntmps28;go_wp2_with (go_at_call 29;refine (Yn _ _ _ _ h hs).mono ?_;rintro e w1 ⟨rfl,a⟩)
 have H:At w1 pl 0 (I v):=Qr a l0;have J:At w1 pl 1 (I c):=Qr a l1;have G:pl<w.heap.size:=Je l0;have C:w.heap.size≤w1.heap.size:=a.size;have D:pl<w1.heap.size:=γ;have s:pl<w1.heap.size+1:=γ;have t:pl<w1.heap.size+1+1:=γ;have u:pl<w1.heap.size+1+1+1:=γ;have z:pl<w1.heap.size+1+1+1+1:=γ;have A:pl<w1.heap.size+1+1+1+1+1:=γ;have B:pl<w1.heap.size+1+1+1+1+1+1:=γ;have f:=Hd a;clear a t0 E F l0 l1 hs;refine wp_loop_rounds 4 ?_;rw [rounds_succ];go_wp2_with (go_at_call 30;refine (Ye _ _ _ _ γ γ γ γ).mono ?_;rintro e d ⟨rfl,o2,rfl⟩)
 rw [rounds_succ];go_wp2_with (go_at_call 30;refine (Ye _ _ _ _ γ γ γ γ).mono ?_;rintro e d ⟨rfl,o3,rfl⟩)
 rw [rounds_succ];go_wp2_with (go_at_call 30;refine (Ye _ _ _ _ γ γ γ γ).mono ?_;rintro e d ⟨rfl,K,rfl⟩)
 rw [rounds_succ];go_wp2;go_ret2
 refine ⟨rfl, ?_⟩;repeat (first | exact f.out | refine Below.alloc ?_ γ1 _)
theorem sum_side (v c x y k:Int) (h:triB x y k=true) (hl:lineB v c=true):sideN v c x y k=if 3*c<sumN v x y k then 1 else -1:=by
 obtain ⟨_,_,b1,b2,b3,b4⟩:=tri_bd h;have hb:0≤v∧v≤3∧-1000000≤c∧c≤1000000∧c % 2=0:=by simpa [lineB] using hl
 obtain ⟨_,_,_,_,d⟩:=hb;have b:v=0∨v=1∨v=2∨v=3:=γ;have a:k=0∨k=1∨k=2∨k=3:=γ;clear h hl;rcases b with rfl | rfl | rfl | rfl <;> rcases a with rfl | rfl | rfl | rfl <;> simp [sideN,sumN,alongOf,c1x,c1y,c2x,c2y,stX,stY] <;> split <;> split <;> omega
theorem side1_any (v c x y k:Int) (pt pl:Nat) (w:World) (h:triB x y k=true) (hl:lineB v c=true) (hs:Steps w)
  (t0:At w pt 0 (I x)) (a:At w pt 1 (I y)) (b:At w pt 2 (I k))
  (l0:At w pl 0 (I v)) (l1:At w pl 1 (I c)) :
  Rt 28 #[.pointer (Az pt),.pointer (Az pl)] w (.tuple #[I (sideN v c x y k),I 0]):=by
 rw [sum_side v c x y k h hl];by_cases hsum:3*c<sumN v x y k
 ·rw [if_pos hsum];exact side1_t v c x y k pt pl w h hl hs t0 a b l0 l1 hsum
 ·rw [if_neg hsum];exact side1_f v c x y k pt pl w h hl hs t0 a b l0 l1 γ
theorem Ul (f:Value) (w:World) :
  Cl 26 #[.bool false,f] w fun r w'=>r=.returned (.tuple #[I 0,I 3])∧w'=w:=by
 go_enter Tryz.func26,Tryz.ntmps26;go_wp2;go_ret2
 exact ⟨rfl,rfl⟩
theorem answerSide (v c x y k:Int) (pt pl:Nat) (w:World) (h:triB x y k=true) (hl:lineB v c=true) (hs:Steps w)
  (t0:At w pt 0 (I x)) (d:At w pt 1 (I y)) (f:At w pt 2 (I k))
  (l0:At w pl 0 (I v)) (l1:At w pl 1 (I c)) :
  Rt 26 #[.bool true,.func (.func 28) #[] #[.pointer (Az pt),.pointer (Az pl)]] w (.tuple #[I (sideN v c x y k),I 0]):=by
 have a:=side1_any v c x y k pt pl w h hl hs t0 d f l0 l1;clear t0 d f l0 l1 hs h hl;go_enter Tryz.func26,Tryz.ntmps26;go_wp2_with (go_at_call 28;refine a.mono ?_;rintro e w1 ⟨rfl,b⟩)
 go_ret2
 exact ⟨rfl,b⟩
theorem make_fun (fn:Go.Fn) (first a:Array Value) (w:World):(Instr.makeFunc fn first a).run Tryz.prog w=.ok (.func fn first a) w:=rfl
theorem Vb (v c x y k:Int) (w:World) (h:triB x y k=true) (hl:lineB v c=true) (hs:Steps w) :
  Rt 9 #[.agg #[I v,I c],.agg #[I x,I y,I k]] w (.tuple #[I (sideN v c x y k),I 0]):=by
 have d:=make_fun;have b:=Hd hs;clear hs;go_enter Tryz.func9,Tryz.ntmps9;go_wp2_with (first | (go_at_call 27;refine (Ym _ _ _).mono ?_;rintro e w1 ⟨rfl,o0,rfl⟩) | (go_at_call 23;refine (Jk _ _ _ _).mono ?_;rintro e w1 ⟨rfl,o1,rfl⟩) | (go_at_call 26;refine (answerSide v c x y k _ _ _ h hl (b.out.kept (by repeat (first | exact Below.refl _ _ | refine Below.alloc ?_ γ1 _))) ζ ζ ζ ζ ζ).mono ?_;rintro e f ⟨rfl,a⟩))
 go_ret2
 refine ⟨rfl,below_via ?_ a⟩;repeat (first | exact Below.refl _ _ | refine Below.alloc ?_ γ1 _)
theorem Side_out (v c x y k:Int) (w:World) (h:lineB v c=false∨triB x y k=false) :
  Rt 9 #[.agg #[I v,I c],.agg #[I x,I y,I k]] w (.tuple #[I 0,I 3]):=by
 have b:=make_fun;by_cases hl:lineB v c=true
 ·have f:triB x y k=false:=h.resolve_left (by simp [hl]);clear h;go_enter Tryz.func9,Tryz.ntmps9;go_wp2_with (first | (go_at_call 27;refine (Ym _ _ _).mono ?_;rintro e w1 ⟨rfl,o0,rfl⟩) | (go_at_call 23;refine (Jk _ _ _ _).mono ?_;rintro e w1 ⟨rfl,o1,rfl⟩) | (go_at_call 26;refine (Ul _ _).mono ?_;rintro e d ⟨rfl,rfl⟩))
  go_ret2
  refine ⟨rfl, ?_⟩;repeat (first | exact Below.refl _ _ | refine Below.alloc ?_ γ1 _)
 ·have a:lineB v c=false:=by simpa using hl
  clear h hl;go_enter Tryz.func9,Tryz.ntmps9;go_wp2_with (first | (go_at_call 27;refine (Ym _ _ _).mono ?_;rintro e w1 ⟨rfl,o0,rfl⟩) | (go_at_call 23;refine (Jk _ _ _ _).mono ?_;rintro e w1 ⟨rfl,o1,rfl⟩) | (go_at_call 26;refine (Ul _ _).mono ?_;rintro e d ⟨rfl,rfl⟩))
  go_ret2
  refine ⟨rfl, ?_⟩;repeat (first | exact Below.refl _ _ | refine Below.alloc ?_ γ1 _)
end Go.Proofs.YtbjmnlefkbhbdaaGreatDoor
