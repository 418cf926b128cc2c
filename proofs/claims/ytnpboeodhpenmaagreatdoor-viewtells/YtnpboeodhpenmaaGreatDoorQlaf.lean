/- A part of the proof of viewTells_holds. -/
import Derived.Test.YtnpboeodhpenmaaGreatDoorQlab
import Derived.Test.YtnpboeodhpenmaaGreatDoorQlaa
import Derived.Deep.QuietTactic
import Derived.BigQuiet
import Derived.Laws.IdiomStrings
namespace Go.Proofs.YtnpboeodhpenmaaGreatDoor
open Go.RowKit
attribute [local go_sem ↓] Go.wp_at_zero Go.wp_at_succ

/-- A row of a map at a point. -/
def dot (p q x y : Int) : Int := p * x + q * y

theorem mul_bd {u x M : Int} (h1 : -1 ≤ u) (h2 : u ≤ 1) (h3 : -M ≤ x) (h4 : x ≤ M) : -M ≤ u * x ∧ u * x ≤ M := by
  have hu : u = -1 ∨ u = 0 ∨ u = 1 := by omega
  rcases hu with rfl | rfl | rfl <;> omega

theorem dot_bd {p q x y M : Int} (h1 : -1 ≤ p) (h2 : p ≤ 1) (h3 : -1 ≤ q) (h4 : q ≤ 1) (h5 : -M ≤ x) (h6 : x ≤ M) (h7 : -M ≤ y) (h8 : y ≤ M) : -(2 * M) ≤ dot p q x y ∧ dot p q x y ≤ 2 * M := by
  have a := mul_bd h1 h2 h5 h6
  have b := mul_bd h3 h4 h7 h8
  unfold dot; omega

/-- The four numbers that turn are small. -/
def Sm (a b c d : Int) : Prop := (-1 ≤ a ∧ a ≤ 1) ∧ (-1 ≤ b ∧ b ≤ 1) ∧ (-1 ≤ c ∧ c ≤ 1) ∧ (-1 ≤ d ∧ d ≤ 1)

theorem turn_any (a b c d e f x y : Int) (w : World) (hs : Sm a b c d) (h1 : -4000000 ≤ x) (h2 : x ≤ 4000000) (h3 : -4000000 ≤ y) (h4 : y ≤ 4000000) :
    Calls Tryz.prog 181 #[.agg #[.int .i64 a, .int .i64 b, .int .i64 c, .int .i64 d, .int .i64 e, .int .i64 f], .agg #[.int .i64 x, .int .i64 y]] w fun r w' => r = .returned (.agg #[.int .i64 (dot a b x y), .int .i64 (dot c d x y)]) ∧ ∃ o1 o2 o3, w' = ((w.alloc o1).alloc o2).alloc o3 := by
  obtain ⟨⟨a1, a2⟩, ⟨b1, b2⟩, ⟨c1, c2⟩, ⟨d1, d2⟩⟩ := hs
  obtain ⟨p1, p2⟩ := mul_bd a1 a2 h1 h2
  obtain ⟨p3, p4⟩ := mul_bd b1 b2 h3 h4
  obtain ⟨p5, p6⟩ := mul_bd c1 c2 h1 h2
  obtain ⟨p7, p8⟩ := mul_bd d1 d2 h3 h4
  go_enter Tryz.func181, Tryz.ntmps181
  go_wp2
  exact bodyPost_ret (v := .agg #[.int .i64 (dot a b x y), .int .i64 (dot c d x y)]) (by simp [results, Tryz.results181, go_sem, dot]) rfl ⟨rfl, _, _, _, rfl⟩

theorem pointOf_any (a b c d e f x y : Int) (w : World) (hs : Sm a b c d) (he : -1000000 ≤ e ∧ e ≤ 1000000) (hf : -1000000 ≤ f ∧ f ≤ 1000000) (h1 : -4000000 ≤ x) (h2 : x ≤ 4000000) (h3 : -4000000 ≤ y) (h4 : y ≤ 4000000) :
    Calls Tryz.prog 130 #[.agg #[.int .i64 a, .int .i64 b, .int .i64 c, .int .i64 d, .int .i64 e, .int .i64 f], .agg #[.int .i64 x, .int .i64 y]] w fun r w' => r = .returned (.agg #[.int .i64 (dot a b x y + e), .int .i64 (dot c d x y + f)]) ∧ ∃ o1 o2 o3, w' = ((w.alloc o1).alloc o2).alloc o3 := by
  obtain ⟨⟨a1, a2⟩, ⟨b1, b2⟩, ⟨c1, c2⟩, ⟨d1, d2⟩⟩ := hs
  obtain ⟨p1, p2⟩ := mul_bd a1 a2 h1 h2
  obtain ⟨p3, p4⟩ := mul_bd b1 b2 h3 h4
  obtain ⟨p5, p6⟩ := mul_bd c1 c2 h1 h2
  obtain ⟨p7, p8⟩ := mul_bd d1 d2 h3 h4
  obtain ⟨e1, e2⟩ := he
  obtain ⟨f1, f2⟩ := hf
  go_enter Tryz.func130, Tryz.ntmps130
  go_wp2
  exact bodyPost_ret (v := .agg #[.int .i64 (dot a b x y + e), .int .i64 (dot c d x y + f)]) (by simp [results, Tryz.results130, go_sem, dot]) rfl ⟨rfl, _, _, _, rfl⟩

set_option maxHeartbeats 1600000 in
theorem image_any (a b c d e f x y : Int) (w : World) (hs : Sm a b c d) (he : -1000000 ≤ e ∧ e ≤ 1000000) (hf : -1000000 ≤ f ∧ f ≤ 1000000) (h1 : -4000000 ≤ x) (h2 : x ≤ 4000000) (h3 : -4000000 ≤ y) (h4 : y ≤ 4000000) :
    Calls Tryz.prog 178 #[.agg #[.int .i64 a, .int .i64 b, .int .i64 c, .int .i64 d, .int .i64 e, .int .i64 f], .agg #[.int .i64 x, .int .i64 y]] w fun r w' => r = .returned (.agg #[.int .i64 (dot a b x y + e), .int .i64 (dot c d x y + f)]) ∧ ∃ o1 o2 o3 o4 o5 o6 o7 o8 o9, w' = (((((((((w.alloc o1).alloc o2).alloc o3).alloc o4).alloc o5).alloc o6).alloc o7).alloc o8).alloc o9).drew := by
  have hd1 := dot_bd hs.1.1 hs.1.2 hs.2.1.1 hs.2.1.2 h1 h2 h3 h4
  have hd2 := dot_bd hs.2.2.1.1 hs.2.2.1.2 hs.2.2.2.1 hs.2.2.2.2 h1 h2 h3 h4
  have HS : Hid (Sm a b c d) := hs
  clear hs
  go_enter Tryz.func178, Tryz.ntmps178
  go_wp2
  go_region_held3 (fun w' => (w'.cell? ⟨w.heap.size, 0, none⟩ = some (.int .i64 a) ∧ w'.cell? ⟨w.heap.size, 1, none⟩ = some (.int .i64 b) ∧ w'.cell? ⟨w.heap.size, 2, none⟩ = some (.int .i64 c) ∧ w'.cell? ⟨w.heap.size, 3, none⟩ = some (.int .i64 d) ∧ w'.cell? ⟨w.heap.size, 4, none⟩ = some (.int .i64 e) ∧ w'.cell? ⟨w.heap.size, 5, none⟩ = some (.int .i64 f))
      ∧ w'.cell? ⟨w.heap.size + 1, 0, none⟩ = some (.int .i64 x) ∧ w'.cell? ⟨w.heap.size + 1, 1, none⟩ = some (.int .i64 y))
    (simp [go_sem, World.cell?_alloc_past])
    (first | (go_at_call 181; refine (turn_any _ _ _ _ _ _ _ _ _ HS.out (by omega) (by omega) (by omega) (by omega)).mono ?_; rintro e w2 ⟨rfl, o3, o4, o5, rfl⟩) | (go_at_call 183; refine (plus_any _ _ _ _ _ (by omega) (by omega) (by omega) (by omega) (by omega) (by omega) (by omega) (by omega)).mono ?_; rintro e w2 ⟨rfl, o6, o7, o8, rfl⟩))
  go_wp2
  exact bodyPost_ret (v := .agg #[.int .i64 (dot a b x y + e), .int .i64 (dot c d x y + f)]) (by simp [results, Tryz.results178, go_sem, World.cell?_alloc_past]) rfl ⟨rfl, _, _, _, _, _, _, _, _, _, rfl⟩

attribute [local go_sem ↓] Go.wp_at_zero Go.wp_at_succ

def Ef (e f : Int) : Prop := (-1000000 ≤ e ∧ e ≤ 1000000) ∧ (-1000000 ≤ f ∧ f ≤ 1000000)

set_option maxHeartbeats 400000 in
theorem after_any (a b c d e f A B C D E F : Int) (w : World) (hs : Sm a b c d) (hS : Sm A B C D) (he : Ef e f) (hE : Ef E F) :
    Calls Tryz.prog 211 #[.agg #[.int .i64 a, .int .i64 b, .int .i64 c, .int .i64 d, .int .i64 e, .int .i64 f], .agg #[.int .i64 A, .int .i64 B, .int .i64 C, .int .i64 D, .int .i64 E, .int .i64 F]] w fun r w' =>
      r = .returned (.agg #[.int .i64 (dot A B a c), .int .i64 (dot A B b d), .int .i64 (dot C D a c), .int .i64 (dot C D b d), .int .i64 (dot A B e f + E), .int .i64 (dot C D e f + F)]) ∧ Below w.heap.size w w' := by
  obtain ⟨⟨a1, a2⟩, ⟨b1, b2⟩, ⟨c1, c2⟩, ⟨d1, d2⟩⟩ := hs
  obtain ⟨⟨e1, e2⟩, ⟨f1, f2⟩⟩ := he
  have HS : Hid (Sm A B C D) := hS
  have HE : Hid (Ef E F) := hE
  clear hS hE
  go_enter Tryz.func211, Tryz.ntmps211
  go_wp2_with (first | (go_at_call 181; refine (turn_any _ _ _ _ _ _ _ _ _ HS.out (by omega) (by omega) (by omega) (by omega)).mono ?_; rintro e w2 ⟨rfl, o1, o2, o3, rfl⟩) | (go_at_call 178; refine (image_any _ _ _ _ _ _ _ _ _ HS.out HE.out.1 HE.out.2 (by omega) (by omega) (by omega) (by omega)).mono ?_; rintro e w2 ⟨rfl, o4, o5, o6, o7, o8, o9, o10, o11, o12, rfl⟩))
  refine bodyPost_ret (v := .agg #[.int .i64 (dot A B a c), .int .i64 (dot A B b d), .int .i64 (dot C D a c), .int .i64 (dot C D b d), .int .i64 (dot A B e f + E), .int .i64 (dot C D e f + F)]) (by simp [results, Tryz.results211, go_sem, World.cell?_alloc_past]) rfl ⟨rfl, ?_⟩
  with_reducible repeat (first | refine bl_alloc ?_ | refine bl_drew ?_ | exact bl_refl _)

theorem dot_one (A B a b c d e f x y E : Int) (hx : x = 1) (hy : y = 0) : dot A B (dot a b x y + e) (dot c d x y + f) + E - (dot A B (dot a b 0 0 + e) (dot c d 0 0 + f) + E) = dot A B a c := by
  subst hx hy; simp [dot, Int.mul_add]; omega
theorem dot_two (A B a b c d e f x y E : Int) (hx : x = 0) (hy : y = 1) : dot A B (dot a b x y + e) (dot c d x y + f) + E - (dot A B (dot a b 0 0 + e) (dot c d 0 0 + f) + E) = dot A B b d := by
  subst hx hy; simp [dot, Int.mul_add]; omega
theorem dot_nought (A B a b c d e f E : Int) : dot A B (dot a b 0 0 + e) (dot c d 0 0 + f) + E = dot A B e f + E := by simp [dot]

theorem ret6 {a b c d e f a' b' c' d' e' f' : Int} (h1 : a = a') (h2 : b = b') (h3 : c = c') (h4 : d = d') (h5 : e = e') (h6 : f = f') :
    Ending.returned (.agg #[.int .i64 a, .int .i64 b, .int .i64 c, .int .i64 d, .int .i64 e, .int .i64 f]) = .returned (.agg #[.int .i64 a', .int .i64 b', .int .i64 c', .int .i64 d', .int .i64 e', .int .i64 f']) := by subst h1 h2 h3 h4 h5 h6; rfl


/-- The worlds that have all of W as it was. -/
structure Kin (W : World) where
  w : World
  h : Below W.heap.size W w
theorem Kin.cells (W : World) : ∀ (n : Kin W) (b o : Nat), b < W.heap.size → n.w.cell? ⟨b, o, none⟩ = W.cell? ⟨b, o, none⟩ := fun n b o hb => n.h.cell (p := ⟨b, o, none⟩) hb
theorem wp_region_kin {P : Program} {id : Nat} {Q : Exit → Act → World → Prop} {a : Act} {W : World} {l : List Oper} (hm : P.follows .mixedOrders = true) (hB : Region.lexB .any l.toArray = true)
    (h : wpQuiet P l.toArray (fun w' => ∃ n : Kin W, w' = n.w) (fun a' => ∀ w', (∃ n : Kin W, w' = n.w) → Q .normal a' w') l a) : (Code.region id l.toArray true).wp P Q a W :=
  wp_region_quiet (C := fun w' => ∃ n : Kin W, w' = n.w) hm hB ⟨⟨W.drew, bl_drew (bl_refl _)⟩, rfl⟩ (by simpa using h)
theorem kin_of {P : Program} {f : FuncId} {args : Array Value} {W : World} {n : Kin W} {v : Value}
    (h : Calls P f args n.w fun e w' => e = .returned v ∧ Below n.w.heap.size n.w w') : Calls P f args n.w fun e w'' => e = .returned v ∧ ∃ m : Kin W, w'' = m.w :=
  h.mono fun _ w' ⟨he, hb⟩ => ⟨he, ⟨w', bl_via n.h hb⟩, rfl⟩
/-- The world of a walk gets a name. -/
theorem wp_named {P : Program} {c : Code} {Q : Exit → Act → World → Prop} {a : Act} {w : World} (h : ∀ W, W = w → c.wp P Q a W) : c.wp P Q a w := h w rfl

/-- A number below 16 as a letter. -/
def hexB (n : Nat) : ByteArray := ⟨#[UInt8.ofNat (if n < 10 then 48 + n else 87 + n)]⟩
theorem hexB_size (n : Nat) : (hexB n).size = 1 := rfl
set_option maxRecDepth 100000 in
theorem byte_conv (b : Nat) (hb : b < 256) (w : World) : (convert 235 9 (.slice (some ⟨w.heap.size, 0, none⟩) 1 1)).run Tryz.prog (w.alloc (.cells #[.int .u8 (b : Int)] 5)) = .ok (.string ⟨#[UInt8.ofNat b]⟩) (w.alloc (.cells #[.int .u8 (b : Int)] 5)) :=
  run_convert_bytes_back (P := Tryz.prog) (w.alloc (.cells #[.int .u8 (b : Int)] 5)) 235 9 5 ⟨w.heap.size, 0, none⟩ 1 [UInt8.ofNat b] Tryz.underlying235 Tryz.underlying5 Tryz.underlying9 (fun j hj => by
    obtain rfl : j = 0 := by simpa using hj
    have : (UInt8.ofNat b).toNat = b := by simp; omega
    simp [go_sem, Addr.add, this])

set_option maxRecDepth 100000 in
set_option maxHeartbeats 3200000 in
theorem decS_any (n : Nat) (w : World) (h : n < 10) : Calls Tryz.prog 158 #[.int .i64 (n : Int)] w fun e w' => e = .returned (.string (hexB n)) ∧ Below w.heap.size w w' := by
  have hb := byte_conv (48 + n) (by omega) w
  have h1 : ¬ (n : Int) < 0 := by omega
  have h2 : (n : Int) < 10 := by omega
  have e1 : hexB n = ⟨#[UInt8.ofNat (48 + n)]⟩ := by unfold hexB; rw [if_pos h]
  rw [← e1] at hb
  have e2 : ((48 + n : Nat) : Int) = 48 + (n : Int) := by omega
  rw [e2] at hb
  clear e1 e2
  go_enter Tryz.func158, Tryz.ntmps158
  go_wp2
  go_ret
  exact ⟨rfl, bl_alloc (bl_refl _)⟩
set_option maxRecDepth 100000 in
set_option maxHeartbeats 3200000 in
theorem refLetter_any (n : Nat) (w : World) (h : n < 16) : Calls Tryz.prog 75 #[.int .i64 (n : Int)] w fun e w' => e = .returned (.string (hexB n)) ∧ Below w.heap.size w w' := by
  by_cases h9 : n < 10
  · have CD : Hid (∀ V : World, Calls Tryz.prog 158 #[.int .i64 (n : Int)] V fun e w' => e = .returned (.string (hexB n)) ∧ Below V.heap.size V w') := fun V => decS_any n V h9
    have h2 : (n : Int) < 10 := by omega
    go_enter Tryz.func75, Tryz.ntmps75
    go_wp2_with (go_at_call 158; refine (CD.out _).mono ?_; rintro e w1 ⟨rfl, hb1⟩; have HB1 : Hid (Below w.heap.size w w1) := hb1; clear hb1)
    go_ret
    exact ⟨rfl, HB1.out⟩
  · have hb := byte_conv (87 + n) (by omega) w
    have h2 : ¬ (n : Int) < 10 := by omega
    have e1 : hexB n = ⟨#[UInt8.ofNat (87 + n)]⟩ := by unfold hexB; rw [if_neg h9]
    rw [← e1] at hb
    have e2 : ((87 + n : Nat) : Int) = 97 + (n : Int) - 10 := by omega
    rw [e2] at hb
    clear e1 e2
    go_enter Tryz.func75, Tryz.ntmps75
    go_wp2
    go_ret
    exact ⟨rfl, bl_alloc (bl_refl _)⟩
end Go.Proofs.YtnpboeodhpenmaaGreatDoor
