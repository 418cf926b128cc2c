/- A part of it. -/
import Derived.Test.YtjkjpopghkeibaaGreatDoorQlaa
import Derived.Shelf.Bits.Mul64
set_option maxRecDepth 100000
set_option maxHeartbeats 40000000
namespace Go.Proofs.YtjkjpopghkeibaaGreatDoor
open Go.RowKit
def mapB (a b c d e f:Int):Bool:=((unitB a && decide (b=0) && decide (c=0) && unitB d) || (decide (a=0) && unitB b && unitB c && decide (d=0))) && evenB e && evenB f
theorem Xe (a b c d e f:Int) (w:World) :
  Cl 129 #[.agg #[I a,I b,I c,I d,I e,I f]] w fun r w'=>r=.returned (.bool (mapB a b c d e f))∧∃ o,w'=w.alloc o:=by
 go_enter Tryz.func129,Tryz.ntmps129;go_wp2_with (first | (go_at_call 186;refine (unit_any _ _).mono ?_;rintro e w' ⟨rfl,rfl⟩) | (go_at_call 162;refine (Ul _ _).mono ?_;rintro e w' ⟨rfl,rfl⟩))
 all_goals
  go_ret;exact ⟨Qv (by simp_all [mapB]),_,rfl⟩
theorem line_bd {v c:Int} (h:lineB v c=true):0≤v∧v≤3∧-1000000≤c∧c≤1000000∧c % 2=0:=by simpa [lineB] using h
def mA (v:Int):Int:=if v=0 then -1 else if v=1 then 1 else 0
def mB (v:Int):Int:=if v=0∨v=1 then 0 else if v=2 then -1 else 1
def mD (v:Int):Int:=if v=0 then 1 else if v=1 then -1 else 0
def mE (v c:Int):Int:=if v=0 then 2*c else if v=1 then 0 else c
def mF (v c:Int):Int:=if v=0 then 0 else if v=1 then 2*c else if v=2 then c else -c
theorem ret_agg6 {a b c d e f g h i j k l:Int} (h1:a=g) (h2:b=h) (h3:c=i) (h4:d=j) (h5:e=k) (h6:f=l) :
  Ending.returned (.agg #[I a,I b,I c,I d,I e,I f])=.returned (.agg #[I g,I h,I i,I j,I k,I l]):=by subst h1 h2 h3 h4 h5 h6;rfl
theorem mirror_any (v c:Int) (w:World) (h:lineB v c=true) :
  Cl 194 #[.agg #[I v,I c]] w fun r w'=>r=.returned (.agg #[I (mA v),I (mB v),I (mB v),I (mD v),I (mE v c),I (mF v c)])∧∃ o1 o2,w'=(w.alloc o1).alloc o2:=by
 obtain ⟨h0,h3,b1,b2,_⟩:=line_bd h;have hv:v=0∨v=1∨v=2∨v=3:=γ;clear h;rcases hv with rfl | rfl | rfl | rfl
 all_goals
  go_enter Tryz.func194,Tryz.ntmps194;go_wp2;refine bodyPost_ret (v:=.agg #[_,_,_,_,_,_]) (by simp [results,Tryz.results194,go_sem];exact ⟨rfl,rfl,rfl,rfl,rfl,rfl⟩) rfl ⟨?_,_,_,rfl⟩;exact ret_agg6 (by simp [mA]) (by simp [mB]) (by simp [mB]) (by simp [mD]) (by simp [mE]) (by simp [mF])
theorem sized_yes (a b c d e f:Int) (w:World) (h:mapB a b c d e f=true) :
  Cl 193 #[.agg #[I a,I b,I c,I d,I e,I f]] w fun r w'=>r=.returned (.tuple #[.agg #[I a,I b,I c,I d,I e,I f],I 0])∧∃ o1 o2 o3,w'=((w.alloc o1).alloc o2).alloc o3:=by
 go_enter Tryz.func193,Tryz.ntmps193;go_wp2_with (go_at_call 129;refine (Xe _ _ _ _ _ _ _).mono ?_;rintro e w' ⟨rfl,o1,rfl⟩)
 exact bodyPost_ret (v:=.tuple #[.agg #[I a,I b,I c,I d,I e,I f],I 0]) (by simp [results,Tryz.results193,go_sem]) rfl ⟨rfl,_,_,_,rfl⟩
theorem sized_no (a b c d e f:Int) (w:World) (h:mapB a b c d e f=false) :
  Cl 193 #[.agg #[I a,I b,I c,I d,I e,I f]] w fun r w'=>r=.returned (.tuple #[.agg #[I 0,I 0,I 0,I 0,I 0,I 0],I 2])∧∃ o1 o2 o3,w'=((w.alloc o1).alloc o2).alloc o3:=by
 go_enter Tryz.func193,Tryz.ntmps193;go_wp2_with (go_at_call 129;refine (Xe _ _ _ _ _ _ _).mono ?_;rintro e w' ⟨rfl,o1,rfl⟩)
 exact bodyPost_ret (v:=.tuple #[.agg #[I 0,I 0,I 0,I 0,I 0,I 0],I 2]) (by simp [results,Tryz.results193,go_sem]) rfl ⟨rfl,_,_,_,rfl⟩
theorem Jf (fn:Go.Fn) (first a:Array Value) (w:World):(Instr.makeFunc fn first a).run Tryz.prog w=.ok (.func fn first a) w:=rfl
theorem mirror1_yes (v c:Int) (p:Nat) (w:World) (h:lineB v c=true) (f:mapB (mA v) (mB v) (mB v) (mD v) (mE v c) (mF v c)=true) (a:At w p 0 (I v)) (g:At w p 1 (I c)) :
  Cl 192 #[.pointer (Az p)] w fun r w'=>r=.returned (.tuple #[.agg #[I (mA v),I (mB v),I (mB v),I (mD v),I (mE v c),I (mF v c)],I 0])∧∃ o1 o2 o3 b d o6,w'=(((((w.alloc o1).alloc o2).alloc o3).alloc b).alloc d).alloc o6:=by
 have i:=bk a;go_enter Tryz.func192,Tryz.ntmps192;go_wp2_with (first | (go_at_call 194;refine (mirror_any _ _ _ h).mono ?_;rintro e w' ⟨rfl,o1,o2,rfl⟩) | (go_at_call 193;refine (sized_yes _ _ _ _ _ _ _ f).mono ?_;rintro e w' ⟨rfl,o3,b,d,rfl⟩))
 exact bodyPost_ret (v:=.tuple #[.agg #[I (mA v),I (mB v),I (mB v),I (mD v),I (mE v c),I (mF v c)],I 0]) (by simp [results,Tryz.results192,go_sem,Ca]) rfl ⟨rfl,_,_,_,_,_,_,rfl⟩
theorem Qah (v c:Int) (p:Nat) (w:World) (h:lineB v c=true) (g:mapB (mA v) (mB v) (mB v) (mD v) (mE v c) (mF v c)=true) (a:At w p 0 (I v)) (i:At w p 1 (I c)) :
  Cl 191 #[.bool true,.func (.func 192) #[] #[.pointer (Az p)]] w fun r w'=>r=.returned (.tuple #[.agg #[I (mA v),I (mB v),I (mB v),I (mD v),I (mE v c),I (mF v c)],I 0])∧∃ o1 o2 o3 b d f o7 o8 o9,w'=((((((((w.alloc o1).alloc o2).alloc o3).alloc b).alloc d).alloc f).alloc o7).alloc o8).alloc o9:=by
 have j:=bk a;go_enter Tryz.func191,Tryz.ntmps191;go_wp2_with (go_at_call 192;refine (mirror1_yes v c p _ h g (by simp [go_sem,Ca, *]) (by simp [go_sem,Ca, *])).mono ?_;rintro e w' ⟨rfl,o1,o2,o3,b,d,f,rfl⟩)
 exact bodyPost_ret (v:=.tuple #[.agg #[I (mA v),I (mB v),I (mB v),I (mD v),I (mE v c),I (mF v c)],I 0]) (by simp [results,Tryz.results191,go_sem,Ca]) rfl ⟨rfl,_,_,_,_,_,_,_,_,_,rfl⟩
theorem Kf (v c:Int) (w:World) (h:lineB v c=true) (a:mapB (mA v) (mB v) (mB v) (mD v) (mE v c) (mF v c)=true) :
  Rt 133 #[.agg #[I v,I c]] w (.tuple #[.agg #[I (mA v),I (mB v),I (mB v),I (mD v),I (mE v c),I (mF v c)],I 0]):=by
 have b:=Jf;go_enter Tryz.func133,Tryz.ntmps133;go_wp2_with (first | (go_at_call 115;refine (mayLine_any _ _ _).mono ?_;rintro e w1 ⟨rfl,o0,rfl⟩) | (go_at_call 191;refine (Qah v c _ _ h a (by simp [go_sem, *]) (by simp [go_sem, *])).mono ?_;rintro e w' ⟨rfl,o1,o2,o3,d,f,g,i,j,k,rfl⟩))
 refine bodyPost_ret (v:=.tuple #[.agg #[I (mA v),I (mB v),I (mB v),I (mD v),I (mE v c),I (mF v c)],I 0]) (by simp [results,Tryz.results133,go_sem,Ca]) rfl ⟨rfl, ?_⟩;repeat (first | exact Below.refl _ _ | refine Below.alloc ?_ (by first | omega | (simp;omega) | (simp;done)) _)
end Go.Proofs.YtjkjpopghkeibaaGreatDoor
namespace Go.Proofs
open Go.Shelf
def Tryz.lays212_ren:Go.Shelf.Ren:=⟨fun | 212=>135 | 263=>197 | 264=>198 | n=>n,fun | 46=>176 | 51=>229 | 146=>254 | 53=>231 | 148=>256 | n=>n,fun | n=>n⟩
theorem Tryz.lays212:Go.Proofs.Lays.n212 Tryz.prog Tryz.lays212_ren:={
 mixed:=by kernel_rfl
 f212:=Tryz.func135.trans (congrArg some (by kernel_rfl))
 f263:=Tryz.func197.trans (congrArg some (by kernel_rfl))
 f264:=Tryz.func198.trans (congrArg some (by kernel_rfl))
 t46:=Tryz.underlying176
 a46:=Tryz.isAgg176
 z46:=Tryz.sizeOf176
 v46:=Tryz.zeroValue176
 t51:=Tryz.underlying229
 a51:=Tryz.isAgg229
 z51:=Tryz.sizeOf229
 v51:=Tryz.zeroValue229
 t53:=Tryz.underlying231
 a53:=Tryz.isAgg231
 z53:=Tryz.sizeOf231
 v53:=Tryz.zeroValue231
 t146:=Tryz.underlying254
 a146:=Tryz.isAgg254
 z146:=Tryz.sizeOf254
 v146:=Tryz.zeroValue254
 t148:=Tryz.underlying256
 a148:=Tryz.isAgg256
 z148:=Tryz.sizeOf256
 v148:=Tryz.zeroValue256 }
open Go.RowKit Go.Lib in
theorem Tryz.bits_Mul (x y:Nat) (hx:x<18446744073709551616) (hy:y<18446744073709551616) (w:World) :
  Calls Tryz.prog 135 #[.int .u64 x,.int .u64 y] w fun e w'=>e=.returned (.tuple #[.int .u64 ((x*y / 18446744073709551616:Nat):Int),.int .u64 ((x*y % 18446744073709551616:Nat):Int)])∧w'=w:=Any.bits_Mul Tryz.lays212 x y hx hy w
end Go.Proofs
