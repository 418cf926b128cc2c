/- A part of it. -/
import Derived.Test.YtjkjpopghkeibaaGreatDoorQlaq
set_option maxRecDepth 100000
set_option maxHeartbeats 40000000
namespace Go.Proofs.YtjkjpopghkeibaaGreatDoor
open Go.RowKit Go.ChangeMaps
variable {w:World} {a:Option Addr} {base:Nat}
theorem TRow.farE {l:List T3} (h:TRow w a l) {p:Addr} {u:Value} (hp:∀ q,a=Az q→q≠p.block):TRow (w.setCell p u) a l:=fun i hi=>by
 obtain ⟨g,e,c0,c1,c2⟩:=h i hi;have hg:=hp g e;exact ⟨g,e,Qo c0 (by dsimp only;exact hg),Qo c1 (by dsimp only;exact hg),Qo c2 (by dsimp only;exact hg)⟩
def SRowE (w:World) (base:Nat) (a:Option Addr) (S:List (T3×List T3)):Prop :=
 ∀ i (h:i<S.length),∃ g sa sc,a=Az g∧base≤g∧At w g (i*4) (I S[i].1.1)∧At w g (i*4+1) (I S[i].1.2.1)∧At w g (i*4+2) (I S[i].1.2.2)∧At w g (i*4+3) (.slice sa S[i].2.length sc)∧TRow w sa S[i].2∧∀ q,sa=Az q→base≤q
theorem SRowE.row {S:List (T3×List T3)} (h:SRowE w base a S):SRow w a S:=fun i hi=>by
 obtain ⟨g,c,d,e,_,c0,c1,c2,c3,b,_⟩:=h i hi;exact ⟨g,c,d,e,c0,c1,c2,c3,b⟩
theorem SRowE.kept {w':World} {S:List (T3×List T3)} (h:SRowE w base a S) (b:Bl w w'):SRowE w' base a S:=fun i hi=>by
 obtain ⟨g,f,j,e,c,c0,c1,c2,c3,d,hq⟩:=h i hi;exact ⟨g,f,j,e,c,Qa b c0,Qa b c1,Qa b c2,Qa b c3,d.kept b,hq⟩
theorem SRowE.low {base':Nat} {S:List (T3×List T3)} (h:SRowE w base a S) (f:base'≤base):SRowE w base' a S:=fun i hi=>by
 obtain ⟨g,c,d,e,h1,c0,c1,c2,c3,b,hq⟩:=h i hi;exact ⟨g,c,d,e,γ,c0,c1,c2,c3,b,fun q e=>by have:=hq q e;omega⟩
theorem SRowE.set {S:List (T3×List T3)} (h:SRowE w base a S) {p:Addr} {u:Value} (hp:p.block<base):SRowE (w.setCell p u) base a S:=fun i hi=>by
 obtain ⟨g,c,d,e,h1,c0,c1,c2,c3,b,hq⟩:=h i hi;exact ⟨g,c,d,e,h1,Qo c0 θ,Qo c1 θ,Qo c2 θ,Qo c3 θ,b.farE (fun q e=>by have:=hq q e;omega),hq⟩
def BoxR (w:World) (g:Nat):Prop:=(At w g 0 (I 0)∧At w g 1 (I 0)∧At w g 2 SN∧At w g 3 SN∧At w g 4 SN∧At w g 5 SN)∧∀ q,Fn w g q
theorem BoxR.kept {w':World} {g:Nat} (h:BoxR w g) (a:Bl w w'):BoxR w' g:=by
 obtain ⟨⟨c0,c1,c2,c3,c4,c5⟩,b⟩:=h;exact ⟨⟨Qa a c0,Qa a c1,Qa a c2,Qa a c3,Qa a c4,Qa a c5⟩,fun q=>(a.frozen (p:=⟨g,q,none⟩) (by have:=bk c0;exact this)).trans (b q)⟩
end Go.Proofs.YtjkjpopghkeibaaGreatDoor
