/- What is asked of two triangles, and of a piece, when some fell out. -/
import Derived.Test.YtmjhfdohcghhoaaGreatDoorQlbu
import Derived.Test.YtmjhfdohcghhoaaGreatDoorQlbp
namespace Go.Proofs.YtmjhfdohcghhoaaGreatDoor
open Go.RowKit Go.ChangeMaps

set_option maxRecDepth 100000 in
set_option maxHeartbeats 3200000 in
theorem restCl_any (w : World) (pb pb2 r B n cc i j : Nat) (ad : Option Addr) (L : List (Int × Int × Int)) (f : Int × Int × Int → Bool) (q0 q1 q2 q3 : Int) (hi : i < n) (hj : j < n) (hn : n = L.length) (_hlen : n ≤ 300) (pF : w.cell? ⟨pb, 0, none⟩ = some (.func (.func 71) #[] #[.pointer (some ⟨B, 0, none⟩)])) (pL : w.cell? ⟨pb2, 0, none⟩ = some (.slice ad n cc)) (hT : TRow w ad L) (hF : FL w r f) (hB : w.cell? ⟨B, 0, none⟩ = some (.map (some r))) :
    Calls Tryz.prog 72 #[.int .i64 (i : Int), .agg #[.int .i64 q0, .int .i64 q1, .int .i64 q2, .int .i64 q3, .int .i64 (j : Int)], .pointer (some ⟨pb, 0, none⟩), .pointer (some ⟨pb2, 0, none⟩)] w fun e w' => e = .returned (.bool (!(f (L.getD i (0, 0, 0))) && !(f (L.getD j (0, 0, 0))))) ∧ Below w.heap.size w w' := by
  have hiL : i < L.length := by omega
  have hjL : j < L.length := by omega
  have gi : L.getD i (0, 0, 0) = L[i] := by rw [List.getD_eq_getElem?_getD, List.getElem?_eq_getElem hiL]; rfl
  have gj : L.getD j (0, 0, 0) = L[j] := by rw [List.getD_eq_getElem?_getD, List.getElem?_eq_getElem hjL]; rfl
  rw [gi, gj]
  have CF : Hid (∀ (x y k : Int) (V : World), Below w.heap.size w V → Calls Tryz.prog 71 #[.agg #[.int .i64 x, .int .i64 y, .int .i64 k], .pointer (some ⟨B, 0, none⟩)] V fun e w' => e = .returned (.bool (f (x, y, k))) ∧ Below V.heap.size V w') := fun x y k V hV => fell_any V r B f x y k (hF.kept hV) (cl_kept hV hB)
  obtain ⟨g, eg, s0, s1, s2⟩ := hT i hiL
  obtain ⟨a0, a1, a2, ea⟩ : ∃ x y k, L[i] = (x, y, k) := ⟨_, _, _, rfl⟩
  rw [ea] at s0 s1 s2 ⊢
  dsimp only at s0 s1 s2
  subst eg
  obtain ⟨g2, eg2, t0, t1, t2⟩ := hT j hjL
  obtain ⟨b0, b1, b2, eb⟩ : ∃ x y k, L[j] = (x, y, k) := ⟨_, _, _, rfl⟩
  rw [eb] at t0 t1 t2 ⊢
  dsimp only at t0 t1 t2
  obtain rfl : g = g2 := by simpa using eg2
  clear eg2 ea eb
  clear hT hF hB hn gi gj
  have i1 : (i : Int) < (n : Int) := by omega
  have i0 : (0 : Int) ≤ (i : Int) := by omega
  have j1 : (j : Int) < (n : Int) := by omega
  have j0 : (0 : Int) ≤ (j : Int) := by omega
  obtain ⟨fi, hfi⟩ : ∃ d : Bool, d = f (a0, a1, a2) := ⟨_, rfl⟩
  obtain ⟨fj, hfj⟩ : ∃ d : Bool, d = f (b0, b1, b2) := ⟨_, rfl⟩
  rw [← hfi, ← hfj]
  have HFI : Hid (fi = f (a0, a1, a2) ∧ fj = f (b0, b1, b2)) := ⟨hfi, hfj⟩
  clear hfi hfj
  go_enter Tryz.func72, Tryz.ntmps72
  go_upto_region 1 with fail
  refine wp_named (fun W0 hW0 => ?_)
  have hw0 : Below w.heap.size w W0 := by rw [hW0]; exact bl_alloc (bl_refl _)
  have x4 : W0.cell? ⟨w.heap.size, 4, none⟩ = some (.int .i64 (j : Int)) := by rw [hW0]; simp [go_sem]
  replace pF := cl_kept hw0 pF
  replace pL := cl_kept hw0 pL
  replace s0 := cl_kept hw0 s0
  replace s1 := cl_kept hw0 s1
  replace s2 := cl_kept hw0 s2
  replace t0 := cl_kept hw0 t0
  replace t1 := cl_kept hw0 t1
  replace t2 := cl_kept hw0 t2
  have HW : Hid (Below w.heap.size w W0) := hw0
  have z0 : w.heap.size < W0.heap.size := World.block_lt_of_cell? _ _ x4
  have z1 : pb < W0.heap.size := World.block_lt_of_cell? _ _ pF
  have z2 : pb2 < W0.heap.size := World.block_lt_of_cell? _ _ pL
  have z3 : g < W0.heap.size := World.block_lt_of_cell? _ _ s0
  clear hW0 hw0
  have CI : Hid (∀ V : World, Below W0.heap.size W0 V → Calls Tryz.prog 71 #[.agg #[.int .i64 a0, .int .i64 a1, .int .i64 a2], .pointer (some ⟨B, 0, none⟩)] V fun e w' => e = .returned (.bool fi) ∧ Below V.heap.size V w') := fun V hV => HFI.out.1 ▸ CF.out _ _ _ _ (bl_via HW.out hV)
  have CJ : Hid (∀ V : World, Below W0.heap.size W0 V → Calls Tryz.prog 71 #[.agg #[.int .i64 b0, .int .i64 b1, .int .i64 b2], .pointer (some ⟨B, 0, none⟩)] V fun e w' => e = .returned (.bool fj) ∧ Below V.heap.size V w') := fun V hV => HFI.out.2 ▸ CF.out _ _ _ _ (bl_via HW.out hV)
  clear CF HFI
  have kc := Kin.cells W0
  have kn : Nonempty (Kin W0) := ⟨⟨W0, bl_refl _⟩⟩
  cases fi <;> cases fj
  all_goals
    refine wp_region_kin (by kernel_rfl) (by kernel_rfl) ?_
    iterate 8 (go_big_quiet_step ((go_at_call 71; exact kin_of (CI.out _ (Kin.h _)))))
    repeat (go_big_quiet_step ((go_at_call 71; exact kin_of (CJ.out _ (Kin.h _)))))
    refine wpQuiet_nil ?_
    intro wq hw'
    obtain ⟨nq, hw''⟩ := hw'
    have hq : Below W0.heap.size W0 wq := hw'' ▸ nq.h
    clear hw'' nq kc kn pF pL x4
    go_wp2
    go_ret
    exact ⟨rfl, bl_via HW.out hq⟩
set_option maxRecDepth 100000 in
set_option maxHeartbeats 3200000 in
theorem headCl_any (w : World) (pb r B m cc : Nat) (ad : Option Addr) (L : List (Int × Int × Int)) (f : Int × Int × Int → Bool) (hn : m = L.length) (h0 : 0 < m) (pF : w.cell? ⟨pb, 0, none⟩ = some (.func (.func 71) #[] #[.pointer (some ⟨B, 0, none⟩)])) (hT : TRow w ad L) (hF : FL w r f) (hB : w.cell? ⟨B, 0, none⟩ = some (.map (some r))) :
    Calls Tryz.prog 74 #[.slice ad m cc, .pointer (some ⟨pb, 0, none⟩)] w fun e w' => e = .returned (.bool (f (L.getD 0 (0, 0, 0)))) ∧ Below w.heap.size w w' := by
  have hiL : 0 < L.length := by omega
  have gi : L.getD 0 (0, 0, 0) = L[0] := by rw [List.getD_eq_getElem?_getD, List.getElem?_eq_getElem hiL]; rfl
  rw [gi]
  have CF : Hid (∀ (x y k : Int) (V : World), Below w.heap.size w V → Calls Tryz.prog 71 #[.agg #[.int .i64 x, .int .i64 y, .int .i64 k], .pointer (some ⟨B, 0, none⟩)] V fun e w' => e = .returned (.bool (f (x, y, k))) ∧ Below V.heap.size V w') := fun x y k V hV => fell_any V r B f x y k (hF.kept hV) (cl_kept hV hB)
  obtain ⟨g, eg, s0, s1, s2⟩ := hT 0 hiL
  obtain ⟨a0, a1, a2, ea⟩ : ∃ x y k, L[0] = (x, y, k) := ⟨_, _, _, rfl⟩
  rw [ea] at s0 s1 s2 ⊢
  dsimp only at s0 s1 s2
  subst eg
  clear ea
  clear hT hF hB hn gi
  have i1 : (0 : Int) < (m : Int) := by omega
  obtain ⟨fj, hfj⟩ : ∃ d : Bool, d = f (a0, a1, a2) := ⟨_, rfl⟩
  have CI : Hid (∀ V : World, Below w.heap.size w V → Calls Tryz.prog 71 #[.agg #[.int .i64 a0, .int .i64 a1, .int .i64 a2], .pointer (some ⟨B, 0, none⟩)] V fun e w' => e = .returned (.bool fj) ∧ Below V.heap.size V w') := fun V hV => hfj ▸ CF.out _ _ _ _ hV
  rw [← hfj]
  clear hfj CF
  go_enter Tryz.func74, Tryz.ntmps74
  go_upto_region 1 with fail
  have z1 : pb < w.heap.size := World.block_lt_of_cell? _ _ pF
  have z3 : g < w.heap.size := World.block_lt_of_cell? _ _ s0
  have kc := Kin.cells w
  have kn : Nonempty (Kin w) := ⟨⟨w, bl_refl _⟩⟩
  refine wp_region_kin (by kernel_rfl) (by kernel_rfl) ?_
  repeat (go_big_quiet_step ((go_at_call 71; exact kin_of (CI.out _ (Kin.h _)))))
  refine wpQuiet_nil ?_
  intro wq hw'
  obtain ⟨nq, hw''⟩ := hw'
  have hq : Below w.heap.size w wq := hw'' ▸ nq.h
  clear hw'' nq kc kn pF s0 s1 s2
  go_wp2
  go_ret
  exact ⟨rfl, hq⟩
end Go.Proofs.YtmjhfdohcghhoaaGreatDoor
