/- A part of the proof of sheetReads_holds. -/
import Derived.Test.YtehmoacggikfmaaGreatDoorQlbt
import Derived.Test.YtehmoacggikfmaaGreatDoorQlav
import Derived.Test.YtehmoacggikfmaaGreatDoorQlbs
namespace Go.Proofs.YtehmoacggikfmaaGreatDoor
open Go.RowKit Go.ChangeMaps

theorem stp_sz (inn : Nat → Nat → List Int → E4 → Bool) (ws : List (List UInt8)) : stp inn RS0 ws = ((szS ws).1, ⟨(szS ws).2.1, (szS ws).2.2, 0, List.replicate ((szS ws).2.1 * (szS ws).2.2) 0, []⟩) := by
  unfold stp
  rw [if_pos (show RS0.W = 0 from rfl)]
theorem sz_die (inn : Nat → Nat → List Int → E4 → Bool) {Ls ws : List (List UInt8)} {j : Nat} {c : Int} (hn : nx 0 (Ls.drop 0) = some (j, ws)) (hc : (szS ws).1 = c) (h0 : c ≠ 0) : rdF inn RS0 0 (Ls.drop 0) = (c, j + 1, RS0) := by
  rw [rd_some inn (Nat.zero_le _) hn, stp_sz, hc]
  simp only [h0, if_false]
theorem sz_more (inn : Nat → Nat → List Int → E4 → Bool) {Ls ws : List (List UInt8)} {j a b : Nat} (hn : nx 0 (Ls.drop 0) = some (j, ws)) (hc : szS ws = (0, a, b)) : rdF inn RS0 0 (Ls.drop 0) = rdF inn ⟨a, b, 0, List.replicate (a * b) 0, []⟩ (j + 1) (Ls.drop (j + 1)) := by
  rw [rd_some inn (Nat.zero_le _) hn, stp_sz, hc]
  simp only [if_true]
/-- What readSize answers. -/
def SzTo (inn : Nat → Nat → List Int → E4 → Bool) (rb : Nat) (Ls : List (List UInt8)) (w w' : World) (e : Ending) : Prop :=
  (∃ (c : Int) (n : Nat) (st : RS), e = PF c (n : Int) ∧ c ≠ 0 ∧ rdF inn RS0 0 (Ls.drop 0) = (c, n, st) ∧ w.grownBy w' (some rb)) ∨
  (∃ W H b : Nat, e = .returned (.tuple #[]) ∧ (1 ≤ W ∧ W ≤ 8) ∧ (1 ≤ H ∧ H ≤ 8) ∧ b ≤ Ls.length ∧ rdF inn RS0 0 (Ls.drop 0) = rdF inn ⟨W, H, 0, List.replicate (W * H) 0, []⟩ b (Ls.drop b) ∧ Chg w w' rb [3, 2, 1] ∧ w'.cell? ⟨rb, 1, none⟩ = some (.int .i64 (b : Int)) ∧ w'.cell? ⟨rb, 2, none⟩ = some (.int .i64 (W : Int)) ∧ w'.cell? ⟨rb, 3, none⟩ = some (.int .i64 (H : Int)))
theorem readSize_all (inn : Nat → Nat → List Int → E4 → Bool) (rb lb cap : Nat) (Ls : List (List UInt8)) (v2 v3 : Value) (w : World) (hB : BASE w rb lb cap Ls) (hc1 : w.cell? ⟨rb, 1, none⟩ = some (.int .i64 0)) (hc2 : w.cell? ⟨rb, 2, none⟩ = some v2) (hc3 : w.cell? ⟨rb, 3, none⟩ = some v3) :
    Calls Tryz.prog 9 #[.pointer (some ⟨rb, 0, none⟩)] w fun e w' => SzTo inn rb Ls w w' e := by
  have hc1' : w.cell? ⟨rb, 1, none⟩ = some (.int .i64 ((0 : Nat) : Int)) := hc1
  cases hn : nx 0 (Ls.drop 0) with
  | none =>
    refine (readSize_none rb _ w (words_n cut_any wrd_any hB hc1' (Nat.zero_le _) hn)).mono ?_
    rintro e w' ⟨rfl, hg⟩
    refine Or.inl ⟨1, Ls.length + 1, RS0, by simp, by decide, ?_, hg⟩
    rw [rd_none inn (Nat.zero_le _) hn, rdF, if_pos (Or.inl (show RS0.W = 0 from rfl))]
  | some p =>
    obtain ⟨j, ws⟩ := p
    have hj := nx_lt (Nat.zero_le _) hn
    have C := words_s cut_any wrd_any hB hc1' (Nat.zero_le _) hn
    have die : ∀ c : Int, (szS ws).1 = c → c ≠ 0 → ∀ e w', e = PF c ((j : Int) + 1) ∧ w.grownBy w' (some rb) → SzTo inn rb Ls w w' e := by
      rintro c hc h0 e w' ⟨rfl, hg⟩
      exact Or.inl ⟨c, j + 1, RS0, by simp, h0, sz_die inn hn hc h0, hg⟩
    by_cases h3 : ws.length = 3
    · obtain ⟨x, y, z, rfl⟩ : ∃ x y z, ws = [x, y, z] := by
        match ws, h3 with
        | [a, b, c], _ => exact ⟨a, b, c, rfl⟩
      by_cases hx : x = sheetW
      · subst hx
        have hs : ∀ {Y Z : Nat}, num y = some Y → num z = some Z → szS [sheetW, y, z] = if (1 ≤ Y ∧ Y ≤ 8) ∧ (1 ≤ Z ∧ Z ≤ 8) then (0, Y, Z) else (3, 0, 0) := fun {Y Z} h1 h2 => by
          unfold szS
          rw [if_neg (by simp [getW])]
          simp only [getW, List.getD_cons_zero, List.getD_cons_succ, h1, h2]
        cases hy : num y with
        | none =>
          refine (readSize_numy rb _ y z w C hy).mono (die 1 ?_ (by decide))
          unfold szS
          rw [if_neg (by simp [getW])]
          simp only [getW, List.getD_cons_zero, List.getD_cons_succ, hy]
        | some Y =>
          cases hz : num z with
          | none =>
            refine (readSize_numz rb _ y z Y w C hz hy).mono (die 1 ?_ (by decide))
            unfold szS
            rw [if_neg (by simp [getW])]
            simp only [getW, List.getD_cons_zero, List.getD_cons_succ, hy, hz]
          | some Z =>
            by_cases hY : 1 ≤ Y ∧ Y ≤ 8
            · by_cases hZ : 1 ≤ Z ∧ Z ≤ 8
              · refine (readSize_ok rb _ y z Y Z v2 v3 w C hy hz hc2 hc3 hB.fz hY hZ).mono ?_
                rintro e w' ⟨rfl, h1, h2, h3, h4⟩
                refine Or.inr ⟨Y, Z, j + 1, rfl, hY, hZ, by omega, sz_more inn hn (by rw [hs hy hz, if_pos ⟨hY, hZ⟩]), h1, ?_, h3, h4⟩
                rw [h2]
                simp
              · refine (readSize_outz rb _ y z Y Z v2 v3 w C hy hz hc2 hc3 hB.fz hY (by omega)).mono (die 3 ?_ (by decide))
                rw [hs hy hz, if_neg (by omega)]
            · refine (readSize_outy rb _ y z Y Z v2 v3 w C hy hz hc2 hc3 hB.fz (by omega)).mono (die 3 ?_ (by decide))
              rw [hs hy hz, if_neg (by omega)]
      · refine (readSize_word rb _ x y z w C hx).mono (die 1 ?_ (by decide))
        unfold szS
        rw [if_pos (Or.inr (by simpa [getW] using hx))]
    · refine (readSize_many rb _ ws w C h3).mono (die 1 ?_ (by decide))
      unfold szS
      rw [if_pos (Or.inl h3)]

/-- What Read answers. -/
def RdTo (w w' : World) (s : ByteArray) (e : Ending) : Prop :=
  (∃ (c : Int) (n : Nat), e = .returned (.tuple #[.agg #[.int .i64 0, .int .i64 0, .slice none 0 0, .slice none 0 0], .agg #[.int .i64 c, .int .i64 (n : Int)]]) ∧ FltOf s c n ∧ Below w.heap.size w w') ∨
  (∃ (W H : Nat) (m : List Int) (cs : List C5) (mb : Nat) (v : Value) (base : Nat), e = .returned (.tuple #[.agg #[.int .i64 (W : Int), .int .i64 (H : Int), .slice (some ⟨mb, 0, none⟩) (W * H) (W * H), v], .agg #[.int .i64 0, .int .i64 0]]) ∧ ShtOf s W H m cs ∧ Row w' (some ⟨mb, 0, none⟩) m ∧ w'.ownsRow base 55 5 v cs.length (flatJ cs) ∧ Below w.heap.size w w')
set_option maxRecDepth 100000 in
set_option maxHeartbeats 1600000 in
theorem read_big (s : ByteArray) (w : World) (hs : 8000 < s.size) : Calls Tryz.prog 4 #[.string s] w fun e w' => RdTo w w' s e := by
  have hmf : ∀ (fn : Fn) (first cap : Array Value) (w : World), (Instr.makeFunc fn first cap).run Tryz.prog w = .ok (.func fn first cap) w := fun _ _ _ _ => rfl
  have hz : (8000 : Int) < (s.size : Int) := by omega
  have HF : Hid (FltOf s 2 0) := Or.inl ⟨hs, rfl, rfl⟩
  clear hs
  go_enter_defers Tryz.func4, Tryz.ntmps4
  go_wp2
  simp [bodyPostD, Leaves, results, Tryz.results4, go_sem]
  exact Or.inl ⟨2, 0, rfl, HF.out, bl_alloc (bl_alloc (bl_refl _))⟩
set_option maxRecDepth 100000 in
theorem rd_start {s : ByteArray} {w w1 : World} {cap : Nat} (hs : s.size ≤ 8000) (hx : MX w) (hst : Steps w) (h1 : SR w1 (w.heap.size + 1 + 1) (ln s.data.toList) ∧ Below (w.heap.size + 1 + 1) ((w.alloc (.cells #[.int .i64 0, .int .i64 0, .slice none 0 0, .slice none 0 0] 25)).alloc (.cells #[.int .i64 0, .int .i64 0] 28)) w1 ∧ w.heap.size + 1 + 1 < w1.heap.size) (w2 : World) (hw2 : w2 = w1.alloc (.cells #[.slice (some ⟨w.heap.size + 1 + 1, 0, none⟩) (ln s.data.toList).length cap, .int .i64 0, .int .i64 0, .int .i64 0, .slice none 0 0, .slice none 0 0, .map none, .map none, .map none] 41)) :
    BASE w2 w1.heap.size (w.heap.size + 1 + 1) cap (ln s.data.toList) ∧ RF w w2 ∧ w.heap.size + 2 ≤ w1.heap.size ∧ w2.cell? ⟨w1.heap.size, 1, none⟩ = some (.int .i64 0) ∧ w2.cell? ⟨w1.heap.size, 2, none⟩ = some (.int .i64 0) ∧ w2.cell? ⟨w1.heap.size, 3, none⟩ = some (.int .i64 0) ∧ w2.cell? ⟨w1.heap.size, 4, none⟩ = some (.slice none 0 0) ∧ w2.cell? ⟨w1.heap.size, 5, none⟩ = some (.slice none 0 0) ∧ w2.cell? ⟨w1.heap.size, 6, none⟩ = some (.map none) ∧ w2.cell? ⟨w1.heap.size, 7, none⟩ = some (.map none) ∧ w2.cell? ⟨w1.heap.size, 8, none⟩ = some (.map none) := by
  obtain ⟨p1, p2, p3⟩ := h1
  have p2' : Below ((w.alloc (.cells #[.int .i64 0, .int .i64 0, .slice none 0 0, .slice none 0 0] 25)).alloc (.cells #[.int .i64 0, .int .i64 0] 28)).heap.size ((w.alloc (.cells #[.int .i64 0, .int .i64 0, .slice none 0 0, .slice none 0 0] 25)).alloc (.cells #[.int .i64 0, .int .i64 0] 28)) w1 := by simpa using p2
  have q2 : Below ((w.alloc (.cells #[.int .i64 0, .int .i64 0, .slice none 0 0, .slice none 0 0] 25)).alloc (.cells #[.int .i64 0, .int .i64 0] 28)).heap.size ((w.alloc (.cells #[.int .i64 0, .int .i64 0, .slice none 0 0, .slice none 0 0] 25)).alloc (.cells #[.int .i64 0, .int .i64 0] 28)) w2 := by rw [hw2]; exact bl_alloc p2'
  have hbw : Below w.heap.size w w2 := bl_via (bl_alloc (bl_alloc (bl_refl w))) q2
  have h3 : 3 < w.heap.size := World.block_lt_of_cell? _ _ hst.1
  have z2 : w2.heap.size = w1.heap.size + 1 := by rw [hw2]; simp
  have hsl : s.data.toList.length = s.size := Array.length_toList
  refine ⟨{ mx := hx.kept hbw, st := hst.kept hbw, c0 := by rw [hw2]; simp, sr := ?_, fz := fun o => by rw [hw2]; simp [go_sem], r3 := by omega, ne := by omega, lt := by omega, ln := ?_, sz := ?_ }, { a0 := cl_kept q2 (by simp [go_sem]), a1 := cl_kept q2 (by simp [go_sem]), a2 := cl_kept q2 (by simp [go_sem]), a3 := cl_kept q2 (by simp [go_sem]), b0 := cl_kept q2 (by simp [go_sem]), b1 := cl_kept q2 (by simp [go_sem]), fa := fun o => (q2.frozen (p := ⟨w.heap.size, o, none⟩) (by simp; omega)).trans (by simp [go_sem]), fb := fun o => (q2.frozen (p := ⟨w.heap.size + 1, o, none⟩) (by simp)).trans (by simp [go_sem]), bl := hbw, sz := by omega }, by omega, by rw [hw2]; simp, by rw [hw2]; simp, by rw [hw2]; simp, by rw [hw2]; simp, by rw [hw2]; simp, by rw [hw2]; simp, by rw [hw2]; simp, by rw [hw2]; simp⟩
  · rw [hw2]
    exact p1.kept (bl_alloc (bl_refl _))
  · have := lnF_len s.data.toList []
    unfold ln
    omega
  · intro x hxm
    have := lnF_sz s.data.toList [] x hxm
    simp at this
    omega
theorem PP_pb {w0 w : World} {base pb ra rk rb : Nat} {vt : Value} {L : List (Int × Int × Int)} {G : Int × Int × Int × Int → List Int} {z : Int} (h : PP w0 w base pb ra rk vt L G) (h1 : w.cell? ⟨rb, 1, none⟩ = some (.int .i64 z)) : rb ≠ pb := by
  rintro rfl
  have := h.1.2.1
  rw [h1] at this
  cases this
theorem em_ne {w : World} {r rb : Nat} {ls : EL} {c : Nat} {z : Int} (h : EM w r ls c) (h1 : w.cell? ⟨rb, 1, none⟩ = some (.int .i64 z)) : rb ≠ r := by
  rintro rfl
  unfold EM at h
  unfold World.cell? at h1
  rw [h] at h1
  cases h1
theorem PP_ra {w0 w : World} {base pb ra rk rb : Nat} {vt : Value} {L : List (Int × Int × Int)} {G : Int × Int × Int × Int → List Int} {z : Int} (h : PP w0 w base pb ra rk vt L G) (h1 : w.cell? ⟨rb, 1, none⟩ = some (.int .i64 z)) : rb ≠ ra := by
  obtain ⟨ls, c, hem, _⟩ := h.2.2.1
  exact em_ne hem h1
theorem PP_rk {w0 w : World} {base pb ra rk rb : Nat} {vt : Value} {L : List (Int × Int × Int)} {G : Int × Int × Int × Int → List Int} {z : Int} (h : PP w0 w base pb ra rk vt L G) (h1 : w.cell? ⟨rb, 1, none⟩ = some (.int .i64 z)) : rb ≠ rk := by
  obtain ⟨c, hem, _⟩ := h.2.2.2.1
  exact em_ne hem h1
theorem own_slc {w : World} {base e size n : Nat} {v : Value} {xs : List Value} (h : w.ownsRow base e size v n xs) : ∃ a k q, v = .slice a k q := by
  rcases h.2 with ⟨rfl, _⟩ | ⟨_, _, _, rfl, _⟩ <;> exact ⟨_, _, _, rfl⟩
theorem below_of {w V V' : World} {a b : Nat} (h : Below w.heap.size w V) (z : V'.heap.size = V.heap.size) (o1 : V'.os = V.os) (o2 : V'.tape = V.tape) (o3 : V'.output = V.output) (hb : ∀ k, k ≠ a → k ≠ b → V'.heap[k]? = V.heap[k]?) (ha : w.heap.size ≤ a) (hb2 : w.heap.size ≤ b) : Below w.heap.size w V' :=
  ⟨o1.trans h.os, o2.trans h.tape, o3.trans h.output, by rw [z]; exact h.size, fun k hk => (hb k (by omega) (by omega)).trans (h.block k hk)⟩
set_option maxRecDepth 100000 in
set_option maxHeartbeats 3200000 in
theorem read_any (s : ByteArray) (w : World) (hs : s.size ≤ 8000) (hx : MX w) (hst : Steps w) : Calls Tryz.prog 4 #[.string s] w fun e w' => RdTo w w' s e := by
  have hmf : ∀ (fn : Fn) (first cap : Array Value) (w : World), (Instr.makeFunc fn first cap).run Tryz.prog w = .ok (.func fn first cap) w := fun _ _ _ _ => rfl
  have hz : ¬ (8000 : Int) < (s.size : Int) := by omega
  have C8 : Hid (∀ V : World, Below w.heap.size w V → Calls Tryz.prog 8 #[.string s] V fun e w' => ∃ cap, e = .returned (.slice (some ⟨V.heap.size, 0, none⟩) (ln s.data.toList).length cap) ∧ SR w' V.heap.size (ln s.data.toList) ∧ Below V.heap.size V w' ∧ V.heap.size < w'.heap.size) := fun V hb => linesOf_any s V hs (hx.kept hb)
  go_enter_defers Tryz.func4, Tryz.ntmps4
  go_wp2_with (first
    | (go_at_call 8; (with_reducible refine (C8.out _ (bl_alloc (bl_alloc (bl_refl w)))).mono ?_); rintro e w1 ⟨cap, rfl, h1⟩)
    | fail)
  simp only [World.size_alloc] at h1
  obtain ⟨w2, hw2⟩ : ∃ V, V = w1.alloc (.cells #[.slice (some ⟨w.heap.size + 1 + 1, 0, none⟩) (ln s.data.toList).length cap, .int .i64 0, .int .i64 0, .int .i64 0, .slice none 0 0, .slice none 0 0, .map none, .map none, .map none] 41) := ⟨_, rfl⟩
  obtain ⟨hB, hRF, hrb, c1, c2, c3, c4, c5, c6, c7, c8⟩ := rd_start hs hx hst h1 w2 hw2
  rw [← hw2]
  clear hw2 h1 C8
  generalize w1.heap.size = rb at *
  generalize hLs : ln s.data.toList = Ls at *
  have HFL : Hid (∀ c n st, rdF innS RS0 0 Ls = (c, n, st) → c ≠ 0 → FltOf s c n) := fun c n st h h0 => Or.inr ⟨hs, Or.inl ⟨st, by rw [hLs]; exact h, h0⟩⟩
  refine (readSize_all innS rb _ cap Ls _ _ w2 hB c1 c2 c3).mono ?_
  rintro e w3 (⟨c, n, st, rfl, h0, hr, hg⟩ | ⟨W, H, b, rfl, hW, hH, hb, hr, hch, k1, k2, k3⟩)
  · rw [List.drop_zero] at hr
    have hrf := hRF.gro hg (fun r e => by cases e; exact hrb)
    have hfl := HFL.out c n st hr h0
    go_wp2
    refine leaves_cons (f := 7) (args := #[.pointer (some ⟨w.heap.size, 0, none⟩), .pointer (some ⟨w.heap.size + 1, 0, none⟩)]) (by simp) (by simp [go_sem]) ?_
    refine (catch_panicking w.heap.size (w.heap.size + 1) c (n : Int) _ _ _ _ _ _ [] _ (by omega) hrf.a0 hrf.a1 hrf.a2 hrf.a3 hrf.b0 hrf.b1 (hrf.fa 0) (hrf.fa 1) (hrf.fa 2) (hrf.fa 3) (hrf.fb 0) (hrf.fb 1)).mono ?_
    rintro e u' w'' ⟨rfl, rfl, r0, r1, r2, r3, q0, q1, z, ⟨o1, o2, o3⟩, hblk⟩
    have hbl : Hid (Below w.heap.size w w'') := below_of hrf.bl z o1 o2 o3 hblk (Nat.le_refl _) (by omega)
    clear hblk
    simp [Leaves, settle, results, Tryz.results4, go_sem, r0, r1, r2, r3, q0, q1]
    exact Or.inl ⟨c, n, rfl, hfl, hbl.out⟩
  · rw [List.drop_zero] at hr
    have hB3 := hB.chg hch (by simp)
    have hrf3 := hRF.gro hch.1 (fun r e => by cases e; exact hrb)
    have C10 := readRows_any innS W H b rb _ cap Ls _ _ _ _ w w3 hB3 hrf3.bl (by omega) k1 k2 k3 ((hch.2.1 4 (by simp)).trans c4) ((hch.2.1 5 (by simp)).trans c5) ((hch.2.1 6 (by simp)).trans c6) ((hch.2.1 7 (by simp)).trans c7) hW hH hb
    have k8 := (hch.2.1 8 (by simp)).trans c8
    clear c1 c2 c3 c4 c5 c6 c7 c8 hB hRF hch
    go_wp2_with (fail)
    refine C10.mono ?_
    rintro e w4 (⟨c, n, st, rfl, h0, hr4, hg⟩ | ⟨m, b4, mb, ad, cc, base, pb, ra, rk, rfl, hRJ, hch4, j1, j4, hMI, hmb, hmb4, j5, j6, j7, hPP, hrbb⟩)
    · have hrf := hrf3.gro hg (fun r e => by cases e; exact hrb)
      have hfl := HFL.out c n st (hr.trans hr4) h0
      go_wp2
      refine leaves_cons (f := 7) (args := #[.pointer (some ⟨w.heap.size, 0, none⟩), .pointer (some ⟨w.heap.size + 1, 0, none⟩)]) (by simp) (by simp [go_sem]) ?_
      refine (catch_panicking w.heap.size (w.heap.size + 1) c (n : Int) _ _ _ _ _ _ [] _ (by omega) hrf.a0 hrf.a1 hrf.a2 hrf.a3 hrf.b0 hrf.b1 (hrf.fa 0) (hrf.fa 1) (hrf.fa 2) (hrf.fa 3) (hrf.fb 0) (hrf.fb 1)).mono ?_
      rintro e u' w'' ⟨rfl, rfl, r0, r1, r2, r3, q0, q1, z, ⟨o1, o2, o3⟩, hblk⟩
      have hbl : Hid (Below w.heap.size w w'') := below_of hrf.bl z o1 o2 o3 hblk (Nat.le_refl _) (by omega)
      clear hblk
      simp [Leaves, settle, results, Tryz.results4, go_sem, r0, r1, r2, r3, q0, q1]
      exact Or.inl ⟨c, n, rfl, hfl, hbl.out⟩
    · have hmr : mb ≠ rb := by have := hB3.lt; omega
      have hmw : w.heap.size + 2 ≤ mb := by have := hrf3.sz; omega
      have hB4 := hB3.chg hch4 (by simp)
      have hrf4 := hrf3.gro hch4.1 (fun r e => by cases e; exact hrb)
      have j2 := (hch4.2.1 2 (by simp)).trans k2
      have j3 := (hch4.2.1 3 (by simp)).trans k3
      have j8 := (hch4.2.1 8 (by simp)).trans k8
      obtain ⟨-, hb4, hml, hmk, hrr⟩ := hRJ
      rw [Nat.sub_zero] at hrr
      have hPA : ∀ V : World, w4.grownBy V (some rb) → PA V ad ra (ty m W H) := fun V hg => by
        exact (hPP.rebase (bl_refl w) hg (by omega) (PP_pb hPP j1) (PP_ra hPP j1) (PP_rk hPP j1) hrbb).pa
      have C11 := readCreases_any W H b4 rb _ cap m Ls _ ad cc ra rk w4 hB4 hW hH j1 hb4 j2 j3 j5 j6 j7 j8 hPA
      clear k1 k2 k3 k8 hB3 hrf3 C10
      go_wp2_with (fail)
      refine C11.mono ?_
      rintro e w5 (⟨c, n, st, rfl, h0, hr5, hg⟩ | ⟨cs, rfl, hr5, hco, hin, hch5, l8, hKM⟩)
      · have hrf := hrf4.gro hg (fun r e => by cases e; exact hrb)
        have hfl := HFL.out c n st ((hr.trans hrr).trans hr5) h0
        go_wp2
        refine leaves_cons (f := 7) (args := #[.pointer (some ⟨w.heap.size, 0, none⟩), .pointer (some ⟨w.heap.size + 1, 0, none⟩)]) (by simp) (by simp [go_sem]) ?_
        refine (catch_panicking w.heap.size (w.heap.size + 1) c (n : Int) _ _ _ _ _ _ [] _ (by omega) hrf.a0 hrf.a1 hrf.a2 hrf.a3 hrf.b0 hrf.b1 (hrf.fa 0) (hrf.fa 1) (hrf.fa 2) (hrf.fa 3) (hrf.fb 0) (hrf.fb 1)).mono ?_
        rintro e u' w'' ⟨rfl, rfl, r0, r1, r2, r3, q0, q1, z, ⟨o1, o2, o3⟩, hblk⟩
        have hbl : Hid (Below w.heap.size w w'') := below_of hrf.bl z o1 o2 o3 hblk (Nat.le_refl _) (by omega)
        clear hblk
        simp [Leaves, settle, results, Tryz.results4, go_sem, r0, r1, r2, r3, q0, q1]
        exact Or.inl ⟨c, n, rfl, hfl, hbl.out⟩
      · have hrf5 := hrf4.gro hch5.1 (fun r e => by cases e; exact hrb)
        have hrdF := (hr.trans hrr).trans hr5
        have hpa5 := hPA w5 hch5.1
        have hst5 := hB4.st.grown hch5.1 (by have := hB4.r3; omega)
        have l2 := (hch5.2.1 2 (by simp)).trans j2
        have l3 := (hch5.2.1 3 (by simp)).trans j3
        have l4 := (hch5.2.1 4 (by simp)).trans j4
        have l5 := (hch5.2.1 5 (by simp)).trans j5
        have l6 := (hch5.2.1 6 (by simp)).trans j6
        have l7 := (hch5.2.1 7 (by simp)).trans j7
        have hlen : (ty m W H).length ≤ 256 := by have := ty_len m W H hW.2; omega
        have hcl : cs.length ≤ 100000 := Nat.le_trans (cs_len hco hlen hin) (by decide)
        have C12 := joined_any w5 cc ra rk ad (ty m W H) hst5 hpa5 (by omega) (ty_nodup m W H) (ty_bd hW.2 hH.2)
        have hMI5 := hMI.grown hch5.1 hmr
        have hml2 : m.length = W * H := hml
        by_cases hJ : Joined (ty m W H)
        · have C12a : Hid (Calls Tryz.prog 12 #[.agg #[.slice ad (ty m W H).length cc, .map (some ra), .map (some rk)]] w5 fun e w' => e = .returned (.bool true) ∧ Below w5.heap.size w5 w') := C12.mono (by
            rintro e w' ⟨bb, rfl, hbb, hb⟩
            exact ⟨by rw [hbb.2 hJ], hb⟩)
          have C13 : Hid (∀ V : World, Below w5.heap.size w5 V → Calls Tryz.prog 13 #[.pointer (some ⟨rb, 0, none⟩)] V fun e w' => ∃ v, e = .returned (.agg #[.int .i64 (W : Int), .int .i64 (H : Int), .slice (some ⟨mb, 0, none⟩) (W * H) (W * H), v]) ∧ ∃ base, w'.ownsRow base 55 5 v cs.length (flatJ cs) ∧ V.heap.size ≤ base ∧ Below V.heap.size V w') := fun V hb => sheet_any rb w4.heap.size W H mb (W * H) cs V (cl_kept hb l2) (cl_kept hb l3) (cl_kept hb l4) (cl_kept hb l8) (hKM.kept hb) hco hcl
          have HSO : Hid (ShtOf s W H m cs) := ⟨hs, by rw [hLs]; exact hrdF, hJ, hml2, hmk, hW, hH, hcl⟩
          have HRF5 : Hid (RF w w5 ∧ MI w5 mb m) := ⟨hrf5, hMI5⟩
          clear C12 C11 hPA hB4 hrf4 hPP hpa5 hst5 hrdF hr hrr hr5 hKM hin hMI hMI5 hrf5 hx hst hs hch4 hch5
          go_wp2_with (first
            | (go_at_call 12; (with_reducible refine Calls.mono C12a.out ?_); rintro e w6 ⟨rfl, h6⟩; have H6 : Hid (Below w5.heap.size w5 w6) := h6; clear h6)
            | (go_at_call 13; (with_reducible refine (C13.out _ H6.out).mono ?_); rintro e w7 ⟨v, rfl, base7, h7⟩; obtain ⟨a7, n7, c7, rfl⟩ := own_slc h7.1; have H7 : Hid (w7.ownsRow base7 55 5 (.slice a7 n7 c7) cs.length (flatJ cs) ∧ w6.heap.size ≤ base7 ∧ Below w6.heap.size w6 w7) := h7; have hr7 := (HRF5.out.1.kept H6.out).kept h7.2.2; have a0 := hr7.a0; have a1 := hr7.a1; have a2 := hr7.a2; have a3 := hr7.a3; have b0 := hr7.b0; have b1 := hr7.b1; have fa0 := hr7.fa 0; have fa1 := hr7.fa 1; have fa2 := hr7.fa 2; have fa3 := hr7.fa 3; have fb0 := hr7.fb 0; have fb1 := hr7.fb 1; have HRF7 : Hid (RF w w7) := hr7; clear h7 hr7)
            | fail)
          refine leaves_cons (f := 7) (args := #[.pointer (some ⟨w.heap.size, 0, none⟩), .pointer (some ⟨w.heap.size + 1, 0, none⟩)]) (by simp) (by simp [go_sem]) ?_
          refine (catch_idle _ _ _).mono ?_
          rintro e u' w'' ⟨rfl, rfl, rfl⟩
          simp [Leaves, settle, results, Tryz.results4, go_sem, *]
          have hz6 := (HRF5.out.1.kept H6.out).sz
          have hz7 := H7.out.2.1
          have hrow := ((HRF5.out.2.kept H6.out).kept H7.out.2.2).row
          have n0 : mb ≠ w.heap.size := by omega
          have n1 : mb ≠ w.heap.size + 1 := by omega
          exact Or.inr ⟨W, H, m, cs, mb, _, base7, rfl, HSO.out, row_set (row_set (row_set (row_set (row_set (row_set hrow n0) n0) n0) n0) n1) n1, own_set (own_set (own_set4 H7.out.1 (by omega)) (by omega)) (by omega), bl_set (bl_set (bl_set (bl_set (bl_set (bl_set HRF7.out.bl (Nat.le_refl _)) (Nat.le_refl _)) (Nat.le_refl _)) (Nat.le_refl _)) (by dsimp only; omega)) (by dsimp only; omega)⟩
        · have C12a : Hid (Calls Tryz.prog 12 #[.agg #[.slice ad (ty m W H).length cc, .map (some ra), .map (some rk)]] w5 fun e w' => e = .returned (.bool false) ∧ Below w5.heap.size w5 w') := C12.mono (by
            rintro e w' ⟨bb, rfl, hbb, hb⟩
            cases bb with
            | true => exact absurd (hbb.1 rfl) hJ
            | false => exact ⟨rfl, hb⟩)
          have HFF : Hid (FltOf s 7 0) := Or.inr ⟨hs, Or.inr ⟨W, H, m, cs, by rw [hLs]; exact hrdF, hJ, rfl, rfl⟩⟩
          have HRF5 : Hid (RF w w5) := hrf5
          clear C12 C11 hPA hB4 hrf4 hPP hpa5 hst5 hrdF hr hrr hr5 hKM hin hMI hMI5 hrf5 hx hst hs hch4 hch5
          go_wp2_with (first
            | (go_at_call 12; (with_reducible refine Calls.mono C12a.out ?_); rintro e w6 ⟨rfl, h6⟩; have hr7 := HRF5.out.kept h6; have a0 := hr7.a0; have a1 := hr7.a1; have a2 := hr7.a2; have a3 := hr7.a3; have b0 := hr7.b0; have b1 := hr7.b1; have fa0 := hr7.fa 0; have fa1 := hr7.fa 1; have fa2 := hr7.fa 2; have fa3 := hr7.fa 3; have fb0 := hr7.fb 0; have fb1 := hr7.fb 1; have HRF7 : Hid (RF w w6) := hr7; clear h6 hr7)
            | fail)
          refine leaves_cons (f := 7) (args := #[.pointer (some ⟨w.heap.size, 0, none⟩), .pointer (some ⟨w.heap.size + 1, 0, none⟩)]) (by simp) (by simp [go_sem]) ?_
          refine (catch_idle _ _ _).mono ?_
          rintro e u' w'' ⟨rfl, rfl, rfl⟩
          simp [Leaves, settle, results, Tryz.results4, go_sem, *]
          exact Or.inl ⟨7, 0, rfl, HFF.out, bl_set (bl_set (bl_set (bl_set (bl_set (bl_set HRF7.out.bl (Nat.le_refl _)) (Nat.le_refl _)) (Nat.le_refl _)) (Nat.le_refl _)) (by dsimp only; omega)) (by dsimp only; omega)⟩
end Go.Proofs.YtehmoacggikfmaaGreatDoor
