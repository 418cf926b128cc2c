/- What the reference's LayOf does: the mathematics. -/
import Derived.Test.YtgpjaecgkkgehaaGreatDoorQfal
import Derived.Test.YtgpjaecgkkgehaaGreatDoorQfat
import Derived.Test.YtgpjaecgkkgehaaGreatDoorQfaf
import Derived.Test.YtgpjaecgkkgehaaGreatDoorQfam
import Derived.Test.YtgpjaecgkkgehaaGreatDoorQfab
import Derived.Test.YtgpjaecgkkgehaaGreatDoorQfae
import Derived.Test.YtgpjaecgkkgehaaGreatDoorQfah
import Derived.Test.YtgpjaecgkkgehaaGreatDoorQfak
import Derived.Test.YtgpjaecgkkgehaaGreatDoorQfai
import Derived.Deep.AppendLies
import Derived.Laws.OwnMore
import Derived.Test.YtgpjaecgkkgehaaGreatDoorQfad
import Derived.Test.YtgpjaecgkkgehaaGreatDoorQfaa
import Derived.Test.YtgpjaecgkkgehaaGreatDoorQfaj
import Derived.Test.YtgpjaecgkkgehaaGreatDoorQfas
import Derived.Test.YtgpjaecgkkgehaaGreatDoorQfag
import Derived.Test.YtgpjaecgkkgehaaGreatDoorQfbc
import Derived.Test.YtgpjaecgkkgehaaGreatDoorQfac
import Derived.Deep.DeepCutAuto
import Derived.Test.YtgpjaecgkkgehaaGreatDoorQfba
import Derived.Test.YtgpjaecgkkgehaaGreatDoorQfbj
import Derived.Maps.AppendAt
import Derived.Test.YtgpjaecgkkgehaaGreatDoorQfbv
namespace Go.Proofs.YtgpjaecgkkgehaaGreatDoor
open Go.RowKit Go.ChangeMaps
theorem zrow_row {w:World} {g n:Nat} {f:Nat→Int} (h:ZRow w g n f):Row w (some ⟨g,0,none⟩) ((List.range n).map f):=fun i hi=>by
 have hi2:i<n:=by simpa using hi
 exact ⟨g,0,rfl,by rw [Nat.zero_add,(h i hi2).1];simp⟩
theorem hvs_range (f:Nat→Int) {n j:Nat} (h:j<n):hvs ((List.range n).map f) j=f j:=by
 unfold hvs
 rw [List.getD_eq_getElem?_getD]
 simp [h]
theorem ints_made {w:World} {base n g:Nat} (h:w.ownsRow base 3 1 (.slice (some ⟨g,0,none⟩) n n) n (madeCells #[.int .i64 0] n).toList):ZRow w g n (fun _=>0):=fun i hi=>by
 have h0:(madeCells #[Value.int .i64 0] n).toList[i]?=some (.int .i64 0):=by
  rw [Array.getElem?_toList]
  unfold madeCells
  have:i % 1=0:=by omega
  simp [hi,this]
 exact ⟨(h.cellAt i (by omega)).trans h0,h.frozenAt i⟩
theorem heap_congr {n:Nat} {pl pl':Nat→Int×Int×Int} {h h':Nat→Int} {S:List ((Int×Int×Int)×List Nat)} (H:Heap n pl h S) (h1:∀ j,j<n→pl j=pl' j) (h2:∀ j,j<n→h j=h' j):Heap n pl' h' S:=by
 refine ⟨H.1,fun s hs=>?_,H.2.2⟩
 obtain ⟨a,b,c⟩:=H.2.1 s hs
 refine ⟨a, ?_,fun j hj=>⟨(c j hj).1,by rw [← h1 j (c j hj).1];exact (c j hj).2⟩⟩
 exact List.Pairwise.imp_of_mem (fun {x y} hx hy q=>by rw [← h2 x (c x hx).1,← h2 y (c y hy).1];exact q) b
theorem heap_hpN {pl:Nat→Int×Int×Int} {h:Nat→Int}:∀ n,(∀ i j,i<n→j<n→pl i=pl j→i≠j→h i≠h j)→Heap n pl h (hpN pl h n)
 | 0,_=>heap_nil pl h
 | n+1,hd=>by
  unfold hpN
  exact (heap_hpN n (fun i j hi hj=>hd i j (by omega) (by omega))).ins (fun j hj e=>hd j n (by omega) (by omega) e (by omega))
end Go.Proofs.YtgpjaecgkkgehaaGreatDoor
