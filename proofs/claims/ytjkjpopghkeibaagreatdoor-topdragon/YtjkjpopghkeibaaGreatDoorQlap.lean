/- A part of it. -/
import Derived.Test.YtjkjpopghkeibaaGreatDoorQlan
import Derived.Test.YtjkjpopghkeibaaGreatDoorQlag
set_option maxRecDepth 100000
set_option maxHeartbeats 40000000
namespace Go.Proofs.YtjkjpopghkeibaaGreatDoor
open Go.RowKit
variable {W:World} {g h:Nat}
attribute [local go_sem ↓] Go.wp_at_zero Go.wp_at_succ
def Zr (W:World) (h g:Nat):Prop:=(At W g 0 (I 0)∧At W g 1 (I 0))∧(Fn W g 0∧Fn W g 1)∧h≤g
theorem Zr.lt (z:Zr W h g):g<W.heap.size:=World.block_lt_of_cell? (w:=W) (a:=⟨g,0,none⟩) z.1.1
theorem Zr.ne (z:Zr W h g):g≠W.heap.size:=Nat.ne_of_lt z.lt
theorem Zr.kept {b:World} (z:Zr W h g) (a:Bl W b):Zr b h g :=
 ⟨⟨Qa a z.1.1,Qa a z.1.2⟩,⟨(a.frozen (p:=⟨g,0,none⟩) z.lt).trans z.2.1.1,(a.frozen (p:=⟨g,1,none⟩) z.lt).trans z.2.1.2⟩,z.2.2⟩
theorem Zr.new (a:h≤W.heap.size):Zr (W.alloc (.cells #[I 0,I 0] 45)) h W.heap.size :=
 ⟨⟨δ,δ⟩,⟨δ,δ⟩,a⟩
end Go.Proofs.YtjkjpopghkeibaaGreatDoor
