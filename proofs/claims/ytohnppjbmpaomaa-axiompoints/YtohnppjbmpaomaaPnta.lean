/- AxiomPoints, whole. -/
import Derived.Test.YtohnppjbmpaomaaFars
import Derived.Test.YtohnppjbmpaomaaOnto
import Derived.Test.YtohnppjbmpaomaaPwa
import Derived.Test.YtohnppjbmpaomaaPwb
import Derived.Test.YtohnppjbmpaomaaPwc
import Derived.Test.YtohnppjbmpaomaaPwd
import Derived.Test.YtohnppjbmpaomaaPwe
import Derived.Test.YtohnppjbmpaomaaPwf
namespace Go.Proofs.Ytohnppjbmpaomaa
open Go.RowKit

theorem points_any (x y X Y a b c : Int) (w : World) :
    Calls Try.prog 3 #[pt x y, pt X Y, st a b c] w fun e w' => e = .returned (.bool true) ∧ Below w.heap.size w w' := by
  have CF := far_two x y X Y
  have CG := far_one x y a b c
  by_cases hf : [x, y, X, Y].any far = true
  · have hk : alk x y X Y = 3 := by rw [alk, if_pos hf]
    simp only [hf, if_true] at CF
    by_cases hm : wrg [⟨a, b, c⟩] [x, y] = 0
    · obtain ⟨⟨ha, hb, hc⟩, hn, hw⟩ := wrg_ok1 hm
      rw [hm] at CG
      exact points_far_ok x y X Y a b c _ _ _ w (fun W => through7_no x y X Y 3 W hk (by decide)) (fun W => onto8_no x y X Y 3 W hk (by decide)) (fun W => upright9_ok a b c x y W hm) CF CG (fun W => uprightOf13 a b c x y W (hn x (by simp)) (hn y (by simp)) ha hb hw)
    · exact points_far_no x y X Y a b c _ w (fun W => through7_no x y X Y 3 W hk (by decide)) (fun W => onto8_no x y X Y 3 W hk (by decide)) (fun W => upright9_no a b c x y _ W rfl hm) CF CG hm
  · simp only [hf] at CF
    cases hs : same2 x y X Y
    · have hk : alk x y X Y = 0 := by rw [alk, if_neg hf, hs]; rfl
      obtain ⟨⟨hx, hy, hX, hY⟩, _⟩ := alk_ok hk
      by_cases hm : wrg [⟨a, b, c⟩] [x, y] = 0
      · obtain ⟨⟨ha, hb, hc⟩, hn, hw⟩ := wrg_ok1 hm
        rw [hm] at CG
        exact points_ok_ok x y X Y a b c _ _ _ _ _ _ _ _ _ w (fun W => through7_ok x y X Y W hk) (fun W => onto8_ok x y X Y W hk) (fun W => upright9_ok a b c x y W hm) CF CG (fun W => throughOf11 x y X Y W hx hy hX hY hs) (fun W => ontoOf12 x y X Y W hx hy hX hY hs) (fun W => uprightOf13 a b c x y W hx hy ha hb hw) hs
      · exact points_ok_no x y X Y a b c _ _ _ _ _ _ _ w (fun W => through7_ok x y X Y W hk) (fun W => onto8_ok x y X Y W hk) (fun W => upright9_no a b c x y _ W rfl hm) CF CG (fun W => throughOf11 x y X Y W hx hy hX hY hs) (fun W => ontoOf12 x y X Y W hx hy hX hY hs) hs hm
    · have hk : alk x y X Y = 6 := by rw [alk, if_neg hf, hs]; rfl
      by_cases hm : wrg [⟨a, b, c⟩] [x, y] = 0
      · obtain ⟨⟨ha, hb, hc⟩, hn, hw⟩ := wrg_ok1 hm
        rw [hm] at CG
        exact points_twice_ok x y X Y a b c _ _ _ w (fun W => through7_no x y X Y 6 W hk (by decide)) (fun W => onto8_no x y X Y 6 W hk (by decide)) (fun W => upright9_ok a b c x y W hm) CF CG (fun W => uprightOf13 a b c x y W (hn x (by simp)) (hn y (by simp)) ha hb hw) hs
      · exact points_twice_no x y X Y a b c _ w (fun W => through7_no x y X Y 6 W hk (by decide)) (fun W => onto8_no x y X Y 6 W hk (by decide)) (fun W => upright9_no a b c x y _ W rfl hm) CF CG hs hm
end Go.Proofs.Ytohnppjbmpaomaa
