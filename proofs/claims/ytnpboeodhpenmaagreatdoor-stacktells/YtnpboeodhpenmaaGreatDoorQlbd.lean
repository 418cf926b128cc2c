/- A part of it. -/
import Derived.Test.YtnpboeodhpenmaaGreatDoorQlag
set_option maxRecDepth 100000
set_option maxHeartbeats 40000000
namespace Go.Proofs.YtnpboeodhpenmaaGreatDoor
open Go.RowKit
theorem clash_a (e0 e1 e2 e3 p0 p1 p2 j o0 o1 o2 k e0' e1' e2' e3' p0' p1' p2' j' o0' o1' o2' k' x x' y y':Int) (tv tv' f g f' g' b1 b2:Bool) (gh oh N ch Iz I':Nat) (w:World)
  (C133:Hid (∀ V:World,Rt 133 #[vC e0 e1 e2 e3 (Iz:Int) p0 p1 p2 j o0 o1 o2 k tv] V (.bool f))) (C134:Hid (∀ V:World,Rt 134 #[vC e0 e1 e2 e3 (Iz:Int) p0 p1 p2 j o0 o1 o2 k tv] V (.bool g))) (C133':Hid (∀ V:World,Rt 133 #[vC e0' e1' e2' e3' (I':Int) p0' p1' p2' j' o0' o1' o2' k' tv'] V (.bool f'))) (C134':Hid (∀ V:World,Rt 134 #[vC e0' e1' e2' e3' (I':Int) p0' p1' p2' j' o0' o1' o2' k' tv'] V (.bool g')))
  (CB:Hid (∀ V:World,Rt 135 #[I x',I x,I y] V (.bool b1))) (CB':Hid (∀ V:World,Rt 135 #[I y',I x,I y] V (.bool b2)))
  (hI:Iz<N) (hI':I'<N) (mI:¬ x<0) (mI':¬ x'<0) (_mJ:¬ y<0) (mJ':¬ y'<0) (hj:¬ j ≥ 0∧f=false∧g=false) (hj':(¬ j' ≥ 0∧f'=false∧g'=false)∨(0≤j'∧j'<(N:Int)∧g' = !f'))
  (HG:Hid (∀ V:World,Bl w V→At V gh (oh+Iz) (I x)∧At V gh (oh+I') (I x')∧(0≤j→At V gh (oh+j.toNat) (I y))∧(0≤j'→At V gh (oh+j'.toNat) (I y')))) :
  Rt 59 #[vC e0 e1 e2 e3 (Iz:Int) p0 p1 p2 j o0 o1 o2 k tv,vC e0' e1' e2' e3' (I':Int) p0' p1' p2' j' o0' o1' o2' k' tv',.slice (Ad gh oh) N ch] w (I (Rz f g f' g' b1 b2 x x' y y' Iz j')):=by
 have _:=CB;have _:=CB';have i1I:(Iz:Int)<(N:Int):=γ;have i0I:(0:Int)≤(Iz:Int):=γ;have i1I':(I':Int)<(N:Int):=γ;have i0I':(0:Int)≤(I':Int):=γ;have zg:gh<w.heap.size:=bk (HG.out w (Qe _)).1;obtain ⟨nj,rfl,rfl⟩:=hj;rcases hj' with ⟨nj',rfl,rfl⟩ | ⟨pj',ij',rfl⟩
 all_goals (try cases f')
 all_goals as_aux_lemma=>exact leaf
end Go.Proofs.YtnpboeodhpenmaaGreatDoor
