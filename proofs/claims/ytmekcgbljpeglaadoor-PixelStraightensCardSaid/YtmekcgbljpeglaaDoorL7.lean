import Derived.Test.YtmekcgbljpeglaaDoorProg
import Derived.WalkKit
import Derived.WalkLawsBesides
import Derived.Outline
import Derived.Lib.Walk
import Derived.Deep.QuietTactic
import Derived.BigQuiet
import Derived.RowKit3
import Derived.Deep.LoopGhost
import Derived.Laws.Rows
import Derived.Laws.Tables
import Derived.Laws.CopyOwn
import Derived.Lib.Hide
import Derived.Handy
import Derived.Deep.Onto
import Derived.IntWalk
import Derived.Deep.RegionHeld3
import Derived.Test.YtmekcgbljpeglaaDoorA1
import Derived.Test.YtmekcgbljpeglaaDoorA2
import Derived.Test.YtmekcgbljpeglaaDoorEQ
import Derived.Test.YtmekcgbljpeglaaDoorB1
import Derived.Test.YtmekcgbljpeglaaDoorB2
import Derived.Test.YtmekcgbljpeglaaDoorB3
import Derived.Test.YtmekcgbljpeglaaDoorB4
import Derived.Test.YtmekcgbljpeglaaDoorB5
import Derived.Test.YtmekcgbljpeglaaDoorB7
import Derived.Test.YtmekcgbljpeglaaDoorU3
import Derived.Test.YtmekcgbljpeglaaDoorT1
import Derived.Test.YtmekcgbljpeglaaDoorT2
import Derived.Test.YtmekcgbljpeglaaDoorK33
import Derived.Test.YtmekcgbljpeglaaDoorK35
import Derived.Test.YtmekcgbljpeglaaDoorS1
import Derived.Test.YtmekcgbljpeglaaDoorS2
import Derived.Test.YtmekcgbljpeglaaDoorS3
import Derived.Test.YtmekcgbljpeglaaDoorS4
import Derived.Test.YtmekcgbljpeglaaDoorS5
import Derived.Test.YtmekcgbljpeglaaDoorS6
import Derived.Test.YtmekcgbljpeglaaDoorS7
import Derived.Test.YtmekcgbljpeglaaDoorS10
import Derived.Test.YtmekcgbljpeglaaDoorAW
import Derived.Test.YtmekcgbljpeglaaDoorL0
namespace Go.Proofs.YtmekcgbljpeglaaDoor
open Go.RowKit
set_option maxHeartbeats 400000
set_option linter.unusedVariables false

theorem st_back {c a : Int} (hc : 0 ≤ c) (hc' : c ≤ 65535) (ha : 1 ≤ a) (ha' : a ≤ 65535) :
    0 ≤ quou (mulu c a) a ∧ quou (mulu c a) a ≤ 65535 ∧ c - quou (mulu c a) a ≤ (65535 + a) / (2 * a) ∧ quou (mulu c a) a - c ≤ (65535 + a) / (2 * a) ∧ (a = 65535 → quou (mulu c a) a = c) := by
  have hb := quou_bd (mulu c a) a
  have ua : un a = a := un_id (by omega) ha'
  have uc : un c = c := un_id hc hc'
  obtain ⟨C, rfl⟩ : ∃ C : Nat, c = (C : Int) := ⟨c.toNat, by omega⟩
  obtain ⟨A, rfl⟩ : ∃ A : Nat, a = (A : Int) := ⟨a.toNat, by omega⟩
  have hq : quou (mulu (C : Int) (A : Int)) (A : Int) = ((min 65535 (PX.rd (PX.rd (C * A) 65535 * 65535) A) : Nat) : Int) := by
    have e : ∀ n : Nat, ((n : Int)).toNat = n := fun n => by omega
    rw [quou_rd _ _ (by omega), un_mulu, mulu_rd, ua, uc, e, e, e]
  rw [hq] at hb ⊢
  obtain ⟨h1, h2⟩ := PX.straight_pre (c := C) (A := A) (U := 65535) (by omega) (by omega) (by omega)
  have hn : ((65535 : Int) + (A : Int)) / (2 * (A : Int)) = (((65535 + A) / (2 * A) : Nat) : Int) := by
    simp only [Int.natCast_ediv, Int.natCast_add, Int.natCast_mul, Int.cast_ofNat_Int]
  rw [hn]
  have h3 : A = 65535 → min 65535 (PX.rd (PX.rd (C * A) 65535 * 65535) A) = C := by
    intro h
    subst h
    exact PX.straight_pre_opaque (by omega) (by omega)
  generalize min 65535 (PX.rd (PX.rd (C * A) 65535 * 65535) A) = q at *
  generalize (65535 + A) / (2 * A) = n at *
  refine ⟨by omega, by omega, by omega, by omega, fun h => ?_⟩
  have := h3 (by omega)
  omega
theorem l7_bad (r g b a : Int) (w : World) (hE : Err2 w) (h : ¬ (0 ≤ r ∧ r ≤ 65535 ∧ 0 ≤ g ∧ g ≤ 65535 ∧ 0 ≤ b ∧ b ≤ 65535 ∧ 1 ≤ a ∧ a ≤ 65535)) : Calls Tryd.prog 7 #[.agg #[.int .i64 r, .int .i64 g, .int .i64 b, .int .i64 a]] w fun e w' => e = .returned (.bool true) ∧ Below w.heap.size w w' := by
  have AW := Lib.hid (fun w hE => l21 w hE)
  have B0 : Below w.heap.size w (w.alloc (.cells #[.int .i64 r, .int .i64 g, .int .i64 b, .int .i64 a] 23)) := bel_al (Below.refl _ _) _
  have HE := Lib.hid (hE.gr B0)
  have R0 := rec4.new w r g b a 23
  obtain ⟨⟨c0, c1, c2, c3⟩, f0⟩ := R0.cells
  clear f0 R0 hE
  by_cases t0 : r < 0
  · clear h
    go_enter Tryd.func7, Tryd.ntmps7
    go_wp2_with (go_at_call 21; fail)
    (with_reducible refine (AW.out _ HE.out).mono ?_)
    rintro e1 w1 ⟨rfl, hg⟩
    go_wp2
    go_ret
    exact ⟨rfl, bel_trans B0 hg⟩
  · have d0 : decide (r < 0) = false := decide_eq_false t0
    by_cases t1 : 65535 < r
    · clear h
      go_enter Tryd.func7, Tryd.ntmps7
      go_wp2_with (go_at_call 21; fail)
      (with_reducible refine (AW.out _ HE.out).mono ?_)
      rintro e1 w1 ⟨rfl, hg⟩
      go_wp2
      go_ret
      exact ⟨rfl, bel_trans B0 hg⟩
    · have d1 : decide (65535 < r) = false := decide_eq_false t1
      by_cases t2 : g < 0
      · clear h
        go_enter Tryd.func7, Tryd.ntmps7
        go_wp2_with (go_at_call 21; fail)
        (with_reducible refine (AW.out _ HE.out).mono ?_)
        rintro e1 w1 ⟨rfl, hg⟩
        go_wp2
        go_ret
        exact ⟨rfl, bel_trans B0 hg⟩
      · have d2 : decide (g < 0) = false := decide_eq_false t2
        by_cases t3 : 65535 < g
        · clear h
          go_enter Tryd.func7, Tryd.ntmps7
          go_wp2_with (go_at_call 21; fail)
          (with_reducible refine (AW.out _ HE.out).mono ?_)
          rintro e1 w1 ⟨rfl, hg⟩
          go_wp2
          go_ret
          exact ⟨rfl, bel_trans B0 hg⟩
        · have d3 : decide (65535 < g) = false := decide_eq_false t3
          by_cases t4 : b < 0
          · clear h
            go_enter Tryd.func7, Tryd.ntmps7
            go_wp2_with (go_at_call 21; fail)
            (with_reducible refine (AW.out _ HE.out).mono ?_)
            rintro e1 w1 ⟨rfl, hg⟩
            go_wp2
            go_ret
            exact ⟨rfl, bel_trans B0 hg⟩
          · have d4 : decide (b < 0) = false := decide_eq_false t4
            by_cases t5 : 65535 < b
            · clear h
              go_enter Tryd.func7, Tryd.ntmps7
              go_wp2_with (go_at_call 21; fail)
              (with_reducible refine (AW.out _ HE.out).mono ?_)
              rintro e1 w1 ⟨rfl, hg⟩
              go_wp2
              go_ret
              exact ⟨rfl, bel_trans B0 hg⟩
            · have d5 : decide (65535 < b) = false := decide_eq_false t5
              by_cases t6 : a < 1
              · clear h
                go_enter Tryd.func7, Tryd.ntmps7
                go_wp2_with (go_at_call 21; fail)
                (with_reducible refine (AW.out _ HE.out).mono ?_)
                rintro e1 w1 ⟨rfl, hg⟩
                go_wp2
                go_ret
                exact ⟨rfl, bel_trans B0 hg⟩
              · have d6 : decide (a < 1) = false := decide_eq_false t6
                by_cases t7 : 65535 < a
                · clear h
                  go_enter Tryd.func7, Tryd.ntmps7
                  go_wp2_with (go_at_call 21; fail)
                  (with_reducible refine (AW.out _ HE.out).mono ?_)
                  rintro e1 w1 ⟨rfl, hg⟩
                  go_wp2
                  go_ret
                  exact ⟨rfl, bel_trans B0 hg⟩
                · have d7 : decide (65535 < a) = false := decide_eq_false t7
                  exact absurd ⟨by omega, by omega, by omega, by omega, by omega, by omega, by omega, by omega⟩ h

set_option maxHeartbeats 4000000 in
theorem l7_full (r g b a : Int) (w : World) (hE : Err2 w) (hr : 0 ≤ r) (hr' : r ≤ 65535) (hg : 0 ≤ g) (hg' : g ≤ 65535) (hb : 0 ≤ b) (hb' : b ≤ 65535) (ha : 1 ≤ a) (ha' : a ≤ 65535) (h1 : a = 65535) : Calls Tryd.prog 7 #[.agg #[.int .i64 r, .int .i64 g, .int .i64 b, .int .i64 a]] w fun e w' => e = .returned (.bool true) ∧ Below w.heap.size w w' := by
  have AW := Lib.hid (fun w hE => l21 w hE)
  have HE := Lib.hid hE
  have ua : un a = a := un_id (by omega) ha'
  obtain ⟨ur, Ur, mr, Mr, kr⟩ := st_back (c := r) (a := a) hr hr' ha ha'
  obtain ⟨ug, Ug, mg, Mg, kg⟩ := st_back (c := g) (a := a) hg hg' ha ha'
  obtain ⟨ub, Ub, mb, Mb, kb⟩ := st_back (c := b) (a := a) hb hb' ha ha'
  have C15 : Hid (∀ w, Calls Tryd.prog 15 #[.agg #[.int .i64 r, .int .i64 g, .int .i64 b, .int .i64 a]] w fun e w' => e = .returned (.agg #[.int .i64 (mulu r a), .int .i64 (mulu g a), .int .i64 (mulu b a), .int .i64 a]) ∧ Below w.heap.size w w') := Lib.hid fun w => by have := k15 ⟨r, g, b, a⟩ w; unfold Px.pre Px.val at this; dsimp only at this; rw [ua] at this; exact this
  have C17 : Hid (∀ w, Calls Tryd.prog 17 #[.agg #[.int .i64 (mulu r a), .int .i64 (mulu g a), .int .i64 (mulu b a), .int .i64 a]] w fun e w' => e = .returned (.agg #[.int .i64 (quou (mulu r a) a), .int .i64 (quou (mulu g a) a), .int .i64 (quou (mulu b a) a), .int .i64 a]) ∧ Below w.heap.size w w') := Lib.hid fun w => by have := k17 ⟨mulu r a, mulu g a, mulu b a, a⟩ w; unfold Px.str Px.val at this; dsimp only at this; rw [ua] at this; exact this
  rw [kr h1] at C17
  rw [kg h1] at C17
  rw [kb h1] at C17
  have e65 : (a == 65535) = true := by simpa using h1
  have hne : ∀ W, (binOp .neq 23 (.agg #[.int .i64 r, .int .i64 g, .int .i64 b, .int .i64 a]) (.agg #[.int .i64 r, .int .i64 g, .int .i64 b, .int .i64 a])).run Tryd.prog W = .ok (.bool false) W := fun W => by rw [neqPx ⟨r, g, b, a⟩ ⟨r, g, b, a⟩ W, same_self]; rfl
  rw [kr h1] at mr Mr ur Ur
  rw [kg h1] at mg Mg ug Ug
  rw [kb h1] at mb Mb ub Ub
  have C11 : Hid (∀ w, Calls Tryd.prog 11 #[.agg #[.int .i64 r, .int .i64 g, .int .i64 b, .int .i64 a]] w fun e w' => e = .returned (.bool true) ∧ Below w.heap.size w w') := Lib.hid fun w => by
    have hv : Px.vld ⟨r, g, b, a⟩ = true := by unfold Px.vld; rw [same_iff]; unfold Px.lim; dsimp only; rw [un_id (by omega) (by omega), un_id (by omega) (by omega), un_id (by omega) (by omega), ua]
    have := k11 ⟨r, g, b, a⟩ w
    rw [hv] at this
    exact this
  generalize mulu r a = pr at *
  generalize mulu g a = pg at *
  generalize mulu b a = pb at *
  obtain ⟨n, hn⟩ : ∃ n, n = (65535 + a) / (2 * a) := ⟨_, rfl⟩
  rw [← hn] at mr Mr mg Mg mb Mb
  obtain ⟨A1, hA1⟩ : ∃ A1, A1 = 65535 + a := ⟨_, rfl⟩
  obtain ⟨A2, hA2⟩ : ∃ A2, A2 = 2 * a := ⟨_, rfl⟩
  have e1 : IntKind.i64.wrap (65535 + a) = A1 := by rw [hA1]; exact IntWalk.i64_in _ (by omega)
  have e2 : IntKind.i64.wrap (2 * a) = A2 := by rw [hA2]; exact IntWalk.i64_in _ (by omega)
  have e3 : A1.tdiv A2 = n := by rw [hn, hA1, hA2]; exact Int.tdiv_eq_ediv_of_nonneg (by omega)
  have e3' : A1 / A2 = n := by rw [hn, hA1, hA2]
  have n0 : 0 ≤ n := by rw [hn]; exact Int.ediv_nonneg (by omega) (by omega)
  have n1 : n ≤ A1 := by rw [← e3']; exact Int.ediv_le_self _ (by omega)
  have e4 : IntKind.i64.wrap n = n := IntWalk.i64_in _ (by omega)
  have z1 : (A2 == 0) = false := by rw [beq_eq_false_iff_ne]; omega
  have z2 : ¬ A2 = 0 := by omega
  have z3 : (0 : Int) < A2 := by omega
  have N0 := Lib.hid (fun w => l36 r r n w hr hr' ur Ur mr Mr)
  have N1 := Lib.hid (fun w => l36 g g n w hg hg' ug Ug mg Mg)
  have N2 := Lib.hid (fun w => l36 b b n w hb hb' ub Ub mb Mb)
  have t0 : decide (r < 0) = false := decide_eq_false (by omega)
  have t1 : decide (65535 < r) = false := decide_eq_false (by omega)
  have t2 : decide (g < 0) = false := decide_eq_false (by omega)
  have t3 : decide (65535 < g) = false := decide_eq_false (by omega)
  have t4 : decide (b < 0) = false := decide_eq_false (by omega)
  have t5 : decide (65535 < b) = false := decide_eq_false (by omega)
  have t6 : decide (a < 1) = false := decide_eq_false (by omega)
  have t7 : decide (65535 < a) = false := decide_eq_false (by omega)
  clear hn hA1 hA2 hr hr' hg hg' hb hb' ha ha' h1 n0 n1 ua ur Ur mr Mr kr ug Ug mg Mg kg ub Ub mb Mb kb hE
  go_enter Tryd.func7, Tryd.ntmps7
  go_wp2_with (go_at_call 15; fail)
  have B0 : Below w.heap.size w (w.alloc (.cells #[.int .i64 r, .int .i64 g, .int .i64 b, .int .i64 a] 23)) := bel_al (Below.refl _ _) _
  (with_reducible refine (C15.out _).mono ?_)
  rintro e1 W1 ⟨rfl, hg⟩
  have R1 : rec4 W1 w.heap.size r g b a := (rec4.new w _ _ _ _ 23).below hg (by simp)
  have z4 : w.heap.size < W1.heap.size := by have := hg.size; simp at this; omega
  have B1 := bel_trans B0 hg
  clear hg B0 C15
  obtain ⟨⟨c0, c1, c2, c3⟩, f0⟩ := R1.cells
  go_wp2_with (go_at_call 17; fail)
  (with_reducible refine (C17.out _).mono ?_)
  rintro e2 W2 ⟨rfl, hg⟩
  have R2 := R1.below hg z4
  have z5 : w.heap.size < W2.heap.size := Nat.lt_of_lt_of_le z4 hg.size
  have B2 := bel_trans B1 hg
  clear hg B1 R1 z4 c0 c1 c2 c3 f0 C17
  obtain ⟨⟨c0, c1, c2, c3⟩, f0⟩ := R2.cells
  go_wp2_with (go_at_call 11; fail)
  (with_reducible refine (C11.out _).mono ?_)
  rintro e3 W3 ⟨rfl, hg⟩
  have R3 : rec4 W3 w.heap.size r g b a := (R2.alloc _ z5).below hg (by simp; omega)
  have R4 : rec4 W3 W2.heap.size r g b a := (rec4.new W2 _ _ _ _ 23).below hg (by simp)
  have z6 : w.heap.size < W3.heap.size := by have := hg.size; simp at this; omega
  have z7 : W2.heap.size < W3.heap.size := by have := hg.size; simp at this; omega
  have B3 := bel_trans (bel_al B2 _) hg
  clear hg B2 R2 z5 c0 c1 c2 c3 f0 C11
  obtain ⟨⟨c0, c1, c2, c3⟩, f0⟩ := R3.cells
  obtain ⟨⟨d0, d1, d2, d3⟩, f1⟩ := R4.cells
  clear R3 R4 f0 f1
  have HE3 := Lib.hid (HE.out.gr B3)
  go_wp2_with (first | (go_at_call 36; (with_reducible refine (N0.out _).mono ?_); rintro e w1 ⟨rfl, rfl⟩) | (go_at_call 36; (with_reducible refine (N1.out _).mono ?_); rintro e w1 ⟨rfl, rfl⟩) | (go_at_call 36; (with_reducible refine (N2.out _).mono ?_); rintro e w1 ⟨rfl, rfl⟩) | (go_at_call 21; (with_reducible refine (AW.out _ HE3.out).mono ?_); rintro e w1 ⟨rfl, hg⟩))
  go_ret
  exact ⟨rfl, bel_trans B3 hg⟩

set_option maxHeartbeats 4000000 in
theorem l7_part (r g b a : Int) (w : World) (hE : Err2 w) (hr : 0 ≤ r) (hr' : r ≤ 65535) (hg : 0 ≤ g) (hg' : g ≤ 65535) (hb : 0 ≤ b) (hb' : b ≤ 65535) (ha : 1 ≤ a) (ha' : a ≤ 65535) (h1 : a ≠ 65535) : Calls Tryd.prog 7 #[.agg #[.int .i64 r, .int .i64 g, .int .i64 b, .int .i64 a]] w fun e w' => e = .returned (.bool true) ∧ Below w.heap.size w w' := by
  have AW := Lib.hid (fun w hE => l21 w hE)
  have HE := Lib.hid hE
  have ua : un a = a := un_id (by omega) ha'
  obtain ⟨ur, Ur, mr, Mr, kr⟩ := st_back (c := r) (a := a) hr hr' ha ha'
  obtain ⟨ug, Ug, mg, Mg, kg⟩ := st_back (c := g) (a := a) hg hg' ha ha'
  obtain ⟨ub, Ub, mb, Mb, kb⟩ := st_back (c := b) (a := a) hb hb' ha ha'
  have C15 : Hid (∀ w, Calls Tryd.prog 15 #[.agg #[.int .i64 r, .int .i64 g, .int .i64 b, .int .i64 a]] w fun e w' => e = .returned (.agg #[.int .i64 (mulu r a), .int .i64 (mulu g a), .int .i64 (mulu b a), .int .i64 a]) ∧ Below w.heap.size w w') := Lib.hid fun w => by have := k15 ⟨r, g, b, a⟩ w; unfold Px.pre Px.val at this; dsimp only at this; rw [ua] at this; exact this
  have C17 : Hid (∀ w, Calls Tryd.prog 17 #[.agg #[.int .i64 (mulu r a), .int .i64 (mulu g a), .int .i64 (mulu b a), .int .i64 a]] w fun e w' => e = .returned (.agg #[.int .i64 (quou (mulu r a) a), .int .i64 (quou (mulu g a) a), .int .i64 (quou (mulu b a) a), .int .i64 a]) ∧ Below w.heap.size w w') := Lib.hid fun w => by have := k17 ⟨mulu r a, mulu g a, mulu b a, a⟩ w; unfold Px.str Px.val at this; dsimp only at this; rw [ua] at this; exact this
  have e65 : (a == 65535) = false := by simpa using h1
  generalize quou (mulu r a) a = qr at *
  generalize quou (mulu g a) a = qg at *
  generalize quou (mulu b a) a = qb at *
  have C11 : Hid (∀ w, Calls Tryd.prog 11 #[.agg #[.int .i64 qr, .int .i64 qg, .int .i64 qb, .int .i64 a]] w fun e w' => e = .returned (.bool true) ∧ Below w.heap.size w w') := Lib.hid fun w => by
    have hv : Px.vld ⟨qr, qg, qb, a⟩ = true := by unfold Px.vld; rw [same_iff]; unfold Px.lim; dsimp only; rw [un_id (by omega) (by omega), un_id (by omega) (by omega), un_id (by omega) (by omega), ua]
    have := k11 ⟨qr, qg, qb, a⟩ w
    rw [hv] at this
    exact this
  generalize mulu r a = pr at *
  generalize mulu g a = pg at *
  generalize mulu b a = pb at *
  obtain ⟨n, hn⟩ : ∃ n, n = (65535 + a) / (2 * a) := ⟨_, rfl⟩
  rw [← hn] at mr Mr mg Mg mb Mb
  obtain ⟨A1, hA1⟩ : ∃ A1, A1 = 65535 + a := ⟨_, rfl⟩
  obtain ⟨A2, hA2⟩ : ∃ A2, A2 = 2 * a := ⟨_, rfl⟩
  have e1 : IntKind.i64.wrap (65535 + a) = A1 := by rw [hA1]; exact IntWalk.i64_in _ (by omega)
  have e2 : IntKind.i64.wrap (2 * a) = A2 := by rw [hA2]; exact IntWalk.i64_in _ (by omega)
  have e3 : A1.tdiv A2 = n := by rw [hn, hA1, hA2]; exact Int.tdiv_eq_ediv_of_nonneg (by omega)
  have e3' : A1 / A2 = n := by rw [hn, hA1, hA2]
  have n0 : 0 ≤ n := by rw [hn]; exact Int.ediv_nonneg (by omega) (by omega)
  have n1 : n ≤ A1 := by rw [← e3']; exact Int.ediv_le_self _ (by omega)
  have e4 : IntKind.i64.wrap n = n := IntWalk.i64_in _ (by omega)
  have z1 : (A2 == 0) = false := by rw [beq_eq_false_iff_ne]; omega
  have z2 : ¬ A2 = 0 := by omega
  have z3 : (0 : Int) < A2 := by omega
  have N0 := Lib.hid (fun w => l36 r qr n w hr hr' ur Ur mr Mr)
  have N1 := Lib.hid (fun w => l36 g qg n w hg hg' ug Ug mg Mg)
  have N2 := Lib.hid (fun w => l36 b qb n w hb hb' ub Ub mb Mb)
  have t0 : decide (r < 0) = false := decide_eq_false (by omega)
  have t1 : decide (65535 < r) = false := decide_eq_false (by omega)
  have t2 : decide (g < 0) = false := decide_eq_false (by omega)
  have t3 : decide (65535 < g) = false := decide_eq_false (by omega)
  have t4 : decide (b < 0) = false := decide_eq_false (by omega)
  have t5 : decide (65535 < b) = false := decide_eq_false (by omega)
  have t6 : decide (a < 1) = false := decide_eq_false (by omega)
  have t7 : decide (65535 < a) = false := decide_eq_false (by omega)
  clear hn hA1 hA2 hr hr' hg hg' hb hb' ha ha' h1 n0 n1 ua ur Ur mr Mr kr ug Ug mg Mg kg ub Ub mb Mb kb hE
  go_enter Tryd.func7, Tryd.ntmps7
  go_wp2_with (go_at_call 15; fail)
  have B0 : Below w.heap.size w (w.alloc (.cells #[.int .i64 r, .int .i64 g, .int .i64 b, .int .i64 a] 23)) := bel_al (Below.refl _ _) _
  (with_reducible refine (C15.out _).mono ?_)
  rintro e1 W1 ⟨rfl, hg⟩
  have R1 : rec4 W1 w.heap.size r g b a := (rec4.new w _ _ _ _ 23).below hg (by simp)
  have z4 : w.heap.size < W1.heap.size := by have := hg.size; simp at this; omega
  have B1 := bel_trans B0 hg
  clear hg B0 C15
  obtain ⟨⟨c0, c1, c2, c3⟩, f0⟩ := R1.cells
  go_wp2_with (go_at_call 17; fail)
  (with_reducible refine (C17.out _).mono ?_)
  rintro e2 W2 ⟨rfl, hg⟩
  have R2 := R1.below hg z4
  have z5 : w.heap.size < W2.heap.size := Nat.lt_of_lt_of_le z4 hg.size
  have B2 := bel_trans B1 hg
  clear hg B1 R1 z4 c0 c1 c2 c3 f0 C17
  obtain ⟨⟨c0, c1, c2, c3⟩, f0⟩ := R2.cells
  go_wp2_with (go_at_call 11; fail)
  (with_reducible refine (C11.out _).mono ?_)
  rintro e3 W3 ⟨rfl, hg⟩
  have R3 : rec4 W3 w.heap.size r g b a := (R2.alloc _ z5).below hg (by simp; omega)
  have R4 : rec4 W3 W2.heap.size qr qg qb a := (rec4.new W2 _ _ _ _ 23).below hg (by simp)
  have z6 : w.heap.size < W3.heap.size := by have := hg.size; simp at this; omega
  have z7 : W2.heap.size < W3.heap.size := by have := hg.size; simp at this; omega
  have B3 := bel_trans (bel_al B2 _) hg
  clear hg B2 R2 z5 c0 c1 c2 c3 f0 C11
  obtain ⟨⟨c0, c1, c2, c3⟩, f0⟩ := R3.cells
  obtain ⟨⟨d0, d1, d2, d3⟩, f1⟩ := R4.cells
  clear R3 R4 f0 f1
  have HE3 := Lib.hid (HE.out.gr B3)
  go_wp2_with (first | (go_at_call 36; (with_reducible refine (N0.out _).mono ?_); rintro e w1 ⟨rfl, rfl⟩) | (go_at_call 36; (with_reducible refine (N1.out _).mono ?_); rintro e w1 ⟨rfl, rfl⟩) | (go_at_call 36; (with_reducible refine (N2.out _).mono ?_); rintro e w1 ⟨rfl, rfl⟩) | (go_at_call 21; (with_reducible refine (AW.out _ HE3.out).mono ?_); rintro e w1 ⟨rfl, hg⟩))
  go_ret
  exact ⟨rfl, bel_trans B3 hg⟩

theorem l7 (r g b a : Int) (w : World) (hE : Err2 w) : Calls Tryd.prog 7 #[.agg #[.int .i64 r, .int .i64 g, .int .i64 b, .int .i64 a]] w fun e w' => e = .returned (.bool true) ∧ Below w.heap.size w w' := by
  by_cases h : 0 ≤ r ∧ r ≤ 65535 ∧ 0 ≤ g ∧ g ≤ 65535 ∧ 0 ≤ b ∧ b ≤ 65535 ∧ 1 ≤ a ∧ a ≤ 65535
  · obtain ⟨h1, h2, h3, h4, h5, h6, h7, h8⟩ := h
    by_cases h9 : a = 65535
    · exact l7_full r g b a w hE h1 h2 h3 h4 h5 h6 h7 h8 h9
    · exact l7_part r g b a w hE h1 h2 h3 h4 h5 h6 h7 h8 h9
  · exact l7_bad r g b a w hE h

end Go.Proofs.YtmekcgbljpeglaaDoor
