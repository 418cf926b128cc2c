/- The next line that has words. -/
import Derived.Test.YtehmoacggikfmaaGreatDoorQlai
import Derived.Test.YtehmoacggikfmaaGreatDoorQlat
namespace Go.Proofs.YtehmoacggikfmaaGreatDoor
open Go.RowKit

/-- A row of texts. -/
def SR (w : World) (A : Nat) (ws : List (List UInt8)) : Prop := ∀ i (h : i < ws.length), w.cell? ⟨A, i, none⟩ = some (.string (bs ws[i]))
theorem SR.kept {w wx : World} {A : Nat} {ws : List (List UInt8)} (h : SR w A ws) (hb : Below w.heap.size w wx) : SR wx A ws := fun i hi => cl_kept hb (h i hi)
theorem grown_cl {w wx : World} {r A i : Nat} {v : Value} (hg : w.grownBy wx (some r)) (hne : A ≠ r) (h : w.cell? ⟨A, i, none⟩ = some v) : wx.cell? ⟨A, i, none⟩ = some v := by
  have hlt := World.block_lt_of_cell? _ _ h
  have := hg.block A hlt (fun e => hne (by simpa using e))
  unfold World.cell? at *
  rw [this]
  exact h
theorem SR.grown {w wx : World} {r A : Nat} {ws : List (List UInt8)} (h : SR w A ws) (hg : w.grownBy wx (some r)) (hne : A ≠ r) : SR wx A ws := fun i hi => grown_cl hg hne (h i hi)
/-- Of one block one cell has changed, and nothing else that lay. -/
def Adv (w wx : World) (rb : Nat) (a : Int) : Prop := w.grownBy wx (some rb) ∧ wx.cell? ⟨rb, 1, none⟩ = some (.int .i64 a) ∧ (∀ o, o ≠ 1 → wx.cell? ⟨rb, o, none⟩ = w.cell? ⟨rb, o, none⟩) ∧ (∀ o, wx.frozen? ⟨rb, o, none⟩ = w.frozen? ⟨rb, o, none⟩)
theorem gb_below {a b c : World} {row : Option Nat} (h : a.grownBy b row) (k : Below b.heap.size b c) : a.grownBy c row :=
  ⟨k.os.trans h.os, k.tape.trans h.tape, k.output.trans h.output, Nat.le_trans h.size k.size, fun i hi hne => (k.block i (Nat.lt_of_lt_of_le hi h.size)).trans (h.block i hi hne)⟩
theorem Adv.lt {w wx : World} {rb : Nat} {a : Int} (h : Adv w wx rb a) : rb < wx.heap.size := World.block_lt_of_cell? _ _ h.2.1
theorem Adv.kept {w wr wx : World} {rb : Nat} {a : Int} (h : Adv w wr rb a) (hb : Below wr.heap.size wr wx) : Adv w wx rb a :=
  ⟨gb_below h.1 hb, cl_kept hb h.2.1, fun o ho => (hb.cell (p := ⟨rb, o, none⟩) h.lt).trans (h.2.2.1 o ho), fun o => (hb.frozen (p := ⟨rb, o, none⟩) h.lt).trans (h.2.2.2 o)⟩
theorem Adv.set {w wx : World} {rb : Nat} {a b : Int} (h : Adv w wx rb a) : Adv w (wx.setCell ⟨rb, 1, none⟩ (.int .i64 b)) rb b := by
  refine ⟨gb_then h.1 (grown_cell wx rb 1 _), ?_, fun o ho => ?_, fun o => ?_⟩
  · have := h.2.1
    simp [go_sem, this]
  · rw [← h.2.2.1 o ho]
    simp [go_sem]
  · rw [← h.2.2.2 o]
    simp [go_sem]
theorem Adv.none {w : World} {rb : Nat} {a : Int} (h : w.cell? ⟨rb, 1, none⟩ = some (.int .i64 a)) : Adv w w rb a := ⟨⟨rfl, rfl, rfl, Nat.le_refl _, fun _ _ _ => rfl⟩, h, fun _ _ => rfl, fun _ => rfl⟩
def MX (w : World) : Prop := ∃ m : Int, w.cell? ⟨0, 0, none⟩ = some (.int .i64 m)
theorem MX.kept {w wx : World} (h : MX w) (hb : Below w.heap.size w wx) : MX wx := ⟨_, cl_kept hb h.choose_spec⟩
theorem MX.grown {w wx : World} {r : Nat} (h : MX w) (hg : w.grownBy wx (some r)) (hne : 0 ≠ r) : MX wx := ⟨_, grown_cl hg hne h.choose_spec⟩
/-- What strings.Cut and lines.Words answer. -/
def CUT : Prop := ∀ (s : ByteArray) (W : World), s.size ≤ 8000 → MX W → Calls Tryz.prog 41 #[.string s, .string ⟨#[35]⟩] W fun e w' => ∃ t b, e = .returned (.tuple #[.string (bs (ahd s.data.toList)), .string t, .bool b]) ∧ Below W.heap.size W w'
def WRD : Prop := ∀ (s : ByteArray) (W : World), s.size ≤ 8000 → Calls Tryz.prog 42 #[.string s] W fun e w' => ∃ A, e = .returned (.slice (some ⟨A, 0, none⟩) (wd s.data.toList).length (wd s.data.toList).length) ∧ W.heap.size ≤ A ∧ SR w' A (wd s.data.toList) ∧ Below W.heap.size W w'
/-- What the reader's words answers. -/
def WdTo (w w' : World) (rb n : Nat) (o : Option (Nat × List (List UInt8))) (e : Ending) : Prop :=
  match o with
  | none => e = .returned (.slice none 0 0) ∧ Adv w w' rb ((n : Int) + 1)
  | some (j, ws) => ∃ A, e = .returned (.slice (some ⟨A, 0, none⟩) ws.length ws.length) ∧ w.heap.size ≤ A ∧ SR w' A ws ∧ Adv w w' rb ((j : Int) + 1)
theorem ahd_len (l : List UInt8) : (ahd l).length ≤ l.length := (List.takeWhile_sublist _).length_le
theorem bs_data (x : List UInt8) : (bs x).data.toList = x := rfl

set_option maxRecDepth 100000 in
set_option maxHeartbeats 6400000 in
theorem words_any (rb lb cap a : Nat) (Ls : List (List UInt8)) (w : World) (hcut : CUT) (hwrd : WRD) (hx : MX w) (hr0 : 0 ≠ rb) (hlr : lb ≠ rb)
    (hc0 : w.cell? ⟨rb, 0, none⟩ = some (.slice (some ⟨lb, 0, none⟩) Ls.length cap)) (hc1 : w.cell? ⟨rb, 1, none⟩ = some (.int .i64 (a : Int))) (hf : w.frozen? ⟨rb, 1, none⟩ = false)
    (hL : SR w lb Ls) (hn : Ls.length ≤ 8001) (ha : a ≤ Ls.length) (hz : ∀ x ∈ Ls, x.length ≤ 8000) :
    Calls Tryz.prog 22 #[.pointer (some ⟨rb, 0, none⟩)] w fun e w' => WdTo w w' rb Ls.length (nx a (Ls.drop a)) e := by
  have HCUT : Hid CUT := hcut
  have HWRD : Hid WRD := hwrd
  have HZ : Hid (∀ x ∈ Ls, x.length ≤ 8000) := hz
  have HL : Hid (SR w lb Ls) := hL
  have HX : Hid (MX w) := hx
  have HC0 : Hid (w.cell? ⟨rb, 0, none⟩ = some (.slice (some ⟨lb, 0, none⟩) Ls.length cap)) := hc0
  have HFZ : Hid (w.frozen? ⟨rb, 1, none⟩ = false) := hf
  have HA0 : Hid (Adv w (w.setCell ⟨rb, 1, none⟩ (.int .i64 ((a : Int) + 1))) rb ((a : Int) + 1)) := (Adv.none hc1).set
  clear hcut hwrd hz hL hx
  go_enter Tryz.func22, Tryz.ntmps22
  go_wp2
  go_loopg [] (Ls.length - a) (fun g wx => ∃ i : Nat, i ≤ Ls.length ∧ g = Ls.length - i ∧ nx i (Ls.drop i) = nx a (Ls.drop a) ∧ Adv w wx rb ((i : Int) + 1))
  case atStart => exact ⟨a, ha, rfl, rfl, HA0.out⟩
  case round =>
    obtain ⟨i, hi, rfl, hnx, hT⟩ := hrel
    have HT : Hid (Adv w wr rb ((i : Int) + 1)) := hT
    have HNX : Hid (nx i (Ls.drop i) = nx a (Ls.drop a)) := hnx
    clear hT hnx HA0
    have p0 : wr.cell? ⟨rb, 0, none⟩ = some (.slice (some ⟨lb, 0, none⟩) Ls.length cap) := (HT.out.2.2.1 0 (by decide)).trans HC0.out
    obtain ⟨m, hm⟩ : ∃ m : Nat, m = i + 1 := ⟨_, rfl⟩
    have hmi : ((i : Int) + 1) = (m : Int) := by omega
    rw [hmi] at HT
    have p1 : wr.cell? ⟨rb, 1, none⟩ = some (.int .i64 (m : Int)) := HT.out.2.1
    have HM : Hid (m = i + 1) := hm
    clear hmi
    have pf : wr.frozen? ⟨rb, 1, none⟩ = false := (HT.out.2.2.2 1).trans HFZ.out
    clear hc0 hc1 hf
    by_cases h1 : i < Ls.length
    · have i1 : (m : Int) ≤ (Ls.length : Int) := by omega
      have i0 : (0 : Int) ≤ (i : Int) := by omega
      have i2 : (i : Int) < (Ls.length : Int) := by omega
      have i3 : IntKind.i64.wrap ((m : Int) - 1) = (i : Int) := by rw [IntKind.wrap_i64]; omega
      clear hm
      obtain ⟨x, hx⟩ : ∃ x, x = Ls[i] := ⟨_, rfl⟩
      have pl : wr.cell? ⟨lb, i, none⟩ = some (.string (bs x)) := by rw [hx]; exact HL.out.grown HT.out.1 hlr i h1
      have hx8 : x.length ≤ 8000 := by rw [hx]; exact HZ.out _ (List.getElem_mem h1)
      have HD : Hid (Ls.drop i = x :: Ls.drop (i + 1)) := by rw [hx]; exact List.drop_eq_getElem_cons h1
      have MXr : Hid (MX wr) := HX.out.grown HT.out.1 hr0
      have C41 : Hid (∀ W : World, Below wr.heap.size wr W → Calls Tryz.prog 41 #[.string (bs x), .string ⟨#[35]⟩] W fun e w' => ∃ t b, e = .returned (.tuple #[.string (bs (ahd x)), .string t, .bool b]) ∧ Below W.heap.size W w') := fun W hb => HCUT.out (bs x) W (by rw [bs_size]; exact hx8) (MXr.out.kept hb)
      have C42 : Hid (∀ W : World, Calls Tryz.prog 42 #[.string (bs (ahd x))] W fun e w' => ∃ A, e = .returned (.slice (some ⟨A, 0, none⟩) (wd (ahd x)).length (wd (ahd x)).length) ∧ W.heap.size ≤ A ∧ SR w' A (wd (ahd x)) ∧ Below W.heap.size W w') := fun W => HWRD.out (bs (ahd x)) W (by rw [bs_size]; exact Nat.le_trans (ahd_len x) hx8)
      clear hx hx8
      go_wp2
      go_region_held3 (fun w' => w'.cell? ⟨rb, 0, none⟩ = some (.slice (some ⟨lb, 0, none⟩) Ls.length cap) ∧ w'.cell? ⟨rb, 1, none⟩ = some (.int .i64 (m : Int)))
        (exact ⟨dr_old p0, dr_old p1⟩)
        (fail)
      obtain ⟨K, hK⟩ : ∃ K, K = (wd (ahd x)).length := ⟨_, rfl⟩
      rw [← hK] at C42
      have HK : Hid (K = (wd (ahd x)).length) := hK
      clear hK
      by_cases k0 : K = 0
      · have k1 : ¬ 0 < (K : Int) := by omega
        have HW : Hid (wd (ahd x) = []) := List.eq_nil_of_length_eq_zero (by rw [← HK.out]; exact k0)
        clear k0
        go_wp2
        go_region_held3 (fun w' => w'.cell? ⟨rb, 0, none⟩ = some (.slice (some ⟨lb, 0, none⟩) Ls.length cap) ∧ w'.cell? ⟨rb, 1, none⟩ = some (.int .i64 (m : Int)) ∧ w'.cell? ⟨lb, i, none⟩ = some (.string (bs x)))
          (first | exact ⟨dr_old (dr_old p0), dr_old (dr_old p1), dr_old (dr_old pl)⟩ | exact ⟨q0, q1, ql⟩)
          ((go_at_call 41; (with_reducible refine (C41.out _ (bl_drew (bl_drew (bl_refl _)))).mono ?_); rintro e w5 ⟨t, b, rfl, hb⟩; have hb5 := bl_via (bl_drew (bl_drew (bl_refl _))) hb; clear hb; have q0 := cl_kept hb5 p0; have q1 := cl_kept hb5 p1; have ql := cl_kept hb5 pl; have qf : w5.frozen? ⟨rb, 1, none⟩ = false := (hb5.frozen (p := ⟨rb, 1, none⟩) HT.out.lt).trans pf; have HT5 : Hid (Adv w w5 rb (m : Int)) := HT.out.kept hb5; clear hb5))
        go_wp2_with (first
          | (go_at_call 42; (with_reducible refine (C42.out _).mono ?_); rintro e w6 ⟨A, rfl, hA, hS, hb⟩; have r1 := cl_kept hb q1; have rf : w6.frozen? ⟨rb, 1, none⟩ = false := (hb.frozen (p := ⟨rb, 1, none⟩) HT5.out.lt).trans qf; have HT6 : Hid (Adv w w6 rb (m : Int)) := HT5.out.kept hb; clear hS hb)
          | fail)
        go_roundg (Ls.length - (i + 1))
        case measure => omega
        case rel =>
          refine ⟨i + 1, by omega, rfl, ?_, ?_⟩
          · rw [← HNX.out, HD.out, nx, if_pos HW.out]
          · rw [← HM.out]
            exact HT6.out.set
      · have k1 : 0 < (K : Int) := by omega
        have HW : Hid (wd (ahd x) ≠ []) := fun e => k0 (by rw [HK.out, e]; rfl)
        clear k0
        go_wp2
        go_region_held3 (fun w' => w'.cell? ⟨rb, 0, none⟩ = some (.slice (some ⟨lb, 0, none⟩) Ls.length cap) ∧ w'.cell? ⟨rb, 1, none⟩ = some (.int .i64 (m : Int)) ∧ w'.cell? ⟨lb, i, none⟩ = some (.string (bs x)))
          (first | exact ⟨dr_old (dr_old p0), dr_old (dr_old p1), dr_old (dr_old pl)⟩ | exact ⟨q0, q1, ql⟩)
          ((go_at_call 41; (with_reducible refine (C41.out _ (bl_drew (bl_drew (bl_refl _)))).mono ?_); rintro e w5 ⟨t, b, rfl, hb⟩; have hb5 := bl_via (bl_drew (bl_drew (bl_refl _))) hb; clear hb; have q0 := cl_kept hb5 p0; have q1 := cl_kept hb5 p1; have ql := cl_kept hb5 pl; have HT5 : Hid (Adv w w5 rb (m : Int)) := HT.out.kept hb5; clear hb5))
        go_wp2_with (first
          | (go_at_call 42; (with_reducible refine (C42.out _).mono ?_); rintro e w6 ⟨A, rfl, hA, hS, hb⟩; have HT6 : Hid (Adv w w6 rb (m : Int) ∧ SR w6 A (wd (ahd x)) ∧ w.heap.size ≤ A) := ⟨HT5.out.kept hb, hS, Nat.le_trans HT5.out.1.size hA⟩; clear hS hb hA)
          | fail)
        go_ret
        rw [← HNX.out, HD.out, nx, if_neg HW.out]
        exact ⟨A, by rw [← HK.out]; rfl, HT6.out.2.2, HT6.out.2.1, by have := HT6.out.1; rw [HM.out] at this; exact this⟩
    · obtain rfl : i = Ls.length := by omega
      have i1 : ¬ (m : Int) ≤ (Ls.length : Int) := by omega
      clear hm
      go_wp2
      go_region_held3 (fun w' => w'.cell? ⟨rb, 0, none⟩ = some (.slice (some ⟨lb, 0, none⟩) Ls.length cap) ∧ w'.cell? ⟨rb, 1, none⟩ = some (.int .i64 (m : Int)))
        (exact ⟨dr_old p0, dr_old p1⟩)
        (fail)
      go_wp2
      go_ret
      rw [← HNX.out, List.drop_length, nx]
      have := HT.out.kept (bl_drew (bl_refl _))
      rw [HM.out] at this
      exact ⟨rfl, this⟩
end Go.Proofs.YtehmoacggikfmaaGreatDoor
