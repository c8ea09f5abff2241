import Derived.Test.YtnjkbmkbifbgkaaProg
import Derived.WalkKit
import Derived.WalkLawsBesides
import Derived.Outline
import Derived.Lib.Walk
import Derived.Deep.QuietTactic
import Derived.BigQuiet
import Derived.RowKit3
import Derived.Deep.LoopGhost
import Derived.Laws.Rows
import Derived.Laws.Tables
import Derived.Laws.CopyOwn
import Derived.Lib.Hide
import Derived.Handy
import Derived.Deep.Onto
import Derived.Test.YtnjkbmkbifbgkaaAW
namespace Go.Proofs.Ytnjkbmkbifbgkaa
open Go.RowKit
set_option maxHeartbeats 400000
set_option linter.unusedVariables false

theorem atF_cu {L : KL} (h : ris L = true) (x : Int) : atF L (cu x) = atF L x := by
  obtain ⟨h1, h2, h3, h4⟩ := (ris_iff L).1 h
  by_cases e0 : x < 0
  · rw [show cu x = 0 by unfold cu; omega, atF_left h1 (show (0 : Int) ≤ (kn L 0).1 by rw [h2]; exact Int.le_refl _), atF_left h1 (show x ≤ (kn L 0).1 by rw [h2]; show x ≤ 0; omega)]
  · by_cases e1 : 65535 < x
    · rw [show cu x = 65535 by unfold cu; omega, atF_right h1 (show (kn L (L.length - 1)).1 ≤ 65535 by rw [h3]; exact Int.le_refl _), atF_right h1 (show (kn L (L.length - 1)).1 ≤ x by rw [h3]; show 65535 ≤ x; omega)]
    · rw [show cu x = x by unfold cu; omega]
theorem back_at {L : KL} (h : ris L = true) (x : Int) : backV L (atF L x) ≤ cu x := by
  obtain ⟨a, b, c, d⟩ := backV_spec h (atF L x)
  refine Int.not_lt.1 fun hl => ?_
  have h1 := d (cu x) (cu_lo x) hl
  unfold tst at h1
  rw [atF_cu h, cu_self (atF_unit L x).1 (atF_unit L x).2, decide_eq_false_iff_not] at h1
  exact h1 (Int.le_refl _)

set_option maxHeartbeats 8000000 in
theorem l10 (v : Value) (L : KL) (x y : Int) (w : World) (h : argK w w.heap.size v L) :
    Calls Try.prog 10 #[v, .int .i64 x, .int .i64 y] w fun e w' => e = .returned (.bool true) ∧ Below w.heap.size w w' := by
  have B0 : Below w.heap.size w w := Below.refl _ _
  have A15 := Lib.hid (fun w => l15 w)
  have H14 := Lib.hid (fun W (hW : Below w.heap.size w W) => s14 v L W (h.up hW hW.size))
  have H23 := Lib.hid (fun W (hW : Below w.heap.size w W) => k23 v L y W (h.up hW hW.size))
  have HA := Lib.hid (fun t W (hW : Below w.heap.size w W) => k16 v L t W (h.up hW hW.size))
  have HB := Lib.hid (fun t W (hW : Below w.heap.size w W) => k23 v L t W (h.up hW hW.size))
  obtain ⟨r, hr⟩ : ∃ r, ris L = r := ⟨_, rfl⟩
  rw [hr] at H14
  cases r
  · have e1 : backF L y = -1 := by unfold backF; rw [if_neg (by rw [hr]; decide)]
    rw [e1] at H23
    clear hr HA HB e1
    obtain ⟨ao, cap, rfl, h⟩ := h
    clear h
    generalize L.length = n at *
    go_enter Try.func10, Try.ntmps10
    go_wp2_with (go_at_call 14; fail)
    (with_reducible refine (H14.out _ B0).mono ?_)
    rintro e1 w1 ⟨rfl, hg⟩
    have B1 := bel_trans B0 hg
    clear hg B0
    go_wp2_with (go_at_call 23; fail)
    (with_reducible refine (H23.out _ B1).mono ?_)
    rintro e2 w2 ⟨rfl, hg⟩
    have B2 := bel_trans B1 hg
    clear hg B1
    go_wp2_with (go_at_call 15; fail)
    (with_reducible refine (A15.out _).mono ?_)
    rintro e3 w3 ⟨rfl, hg⟩
    have B3 := bel_trans B2 hg
    go_wp2
    go_ret
    exact ⟨rfl, B3⟩
  · obtain ⟨b0, b1, b2, b3⟩ := backV_spec hr y
    have bx := back_at hr x
    have e1 : ∀ t, backF L t = backV L t := fun t => by unfold backF; rw [if_pos hr]
    rw [e1] at H23
    have H24 := Lib.hid (HB.out (atF L x))
    rw [e1] at H24
    have H16 := Lib.hid (HA.out (backV L y))
    have H17 := Lib.hid (HA.out (backV L y - 1))
    have H18 := Lib.hid (HA.out x)
    have t1 : cu y ≤ atF L (backV L y) := by unfold tst at b2; exact of_decide_eq_true b2
    have t2 : 0 < backV L y → atF L (backV L y - 1) < cu y := fun hp => by
      have := b3 (backV L y - 1) (by omega) (by omega)
      unfold tst at this
      have := of_decide_eq_false this
      omega
    have ey : min (max y 0) 65535 = cu y := by unfold cu; omega
    have ex : min (max x 0) 65535 = cu x := by unfold cu; omega
    clear e1 hr HA HB b2 b3
    obtain ⟨ao, cap, rfl, h⟩ := h
    clear h
    generalize L.length = n at *
    generalize atF L (backV L y) = p at *
    generalize atF L (backV L y - 1) = q at *
    generalize backV L (atF L x) = s at *
    generalize atF L x = ax at *
    generalize backV L y = b at *
    generalize cu y = u at *
    generalize cu x = ux at *
    have d1 : decide (b < 0) = false := decide_eq_false (by omega)
    have d2 : decide ((65535 : Int) < b) = false := decide_eq_false (by omega)
    have d3 : decide (p < u) = false := decide_eq_false (by omega)
    have d5 : decide (s ≤ ux) = true := decide_eq_true bx
    by_cases hp : 0 < b
    · have d4 : decide ((0 : Int) < b) = true := decide_eq_true hp
      have hq := t2 hp
      have d6 : decide (u ≤ q) = false := decide_eq_false (by omega)
      have kb : IntKind.i64.wrap (b - 1) = b - 1 := IntWalk.i64_in _ (by omega)
      clear t2
      go_enter Try.func10, Try.ntmps10
      go_wp2_with (go_at_call 14; fail)
      (with_reducible refine (H14.out _ B0).mono ?_)
      rintro e1 w1 ⟨rfl, hg⟩
      have B1 := bel_trans B0 hg
      clear hg B0
      go_wp2_with (go_at_call 23; fail)
      (with_reducible refine (H23.out _ B1).mono ?_)
      rintro e2 w2 ⟨rfl, hg⟩
      have B2 := bel_trans B1 hg
      clear hg B1
      go_wp2_with (go_at_call 16; fail)
      (with_reducible refine (H16.out _ B2).mono ?_)
      rintro e3 w3 ⟨rfl, hg⟩
      have B3 := bel_trans B2 hg
      clear hg B2
      go_wp2_with (go_at_call 16; fail)
      (with_reducible refine (H17.out _ B3).mono ?_)
      rintro e4 w4 ⟨rfl, hg⟩
      have B4 := bel_trans B3 hg
      clear hg B3
      go_wp2_with (go_at_call 16; fail)
      (with_reducible refine (H18.out _ B4).mono ?_)
      rintro e5 w5 ⟨rfl, hg⟩
      have B5 := bel_trans B4 hg
      clear hg B4
      go_wp2_with (go_at_call 23; fail)
      (with_reducible refine (H24.out _ B5).mono ?_)
      rintro e6 w6 ⟨rfl, hg⟩
      have B6 := bel_trans B5 hg
      clear hg B5
      go_wp2_with (go_at_call 15; fail)
      (with_reducible refine (A15.out _).mono ?_)
      rintro e7 w7 ⟨rfl, hg⟩
      have B7 := bel_trans B6 hg
      go_wp2
      go_ret
      exact ⟨rfl, B7⟩
    · have d4 : decide ((0 : Int) < b) = false := decide_eq_false hp
      clear t2 H17
      go_enter Try.func10, Try.ntmps10
      go_wp2_with (go_at_call 14; fail)
      (with_reducible refine (H14.out _ B0).mono ?_)
      rintro e1 w1 ⟨rfl, hg⟩
      have B1 := bel_trans B0 hg
      clear hg B0
      go_wp2_with (go_at_call 23; fail)
      (with_reducible refine (H23.out _ B1).mono ?_)
      rintro e2 w2 ⟨rfl, hg⟩
      have B2 := bel_trans B1 hg
      clear hg B1
      go_wp2_with (go_at_call 16; fail)
      (with_reducible refine (H16.out _ B2).mono ?_)
      rintro e3 w3 ⟨rfl, hg⟩
      have B3 := bel_trans B2 hg
      clear hg B2
      go_wp2_with (go_at_call 16; fail)
      (with_reducible refine (H18.out _ B3).mono ?_)
      rintro e4 w4 ⟨rfl, hg⟩
      have B4 := bel_trans B3 hg
      clear hg B3
      go_wp2_with (go_at_call 23; fail)
      (with_reducible refine (H24.out _ B4).mono ?_)
      rintro e5 w5 ⟨rfl, hg⟩
      have B5 := bel_trans B4 hg
      clear hg B4
      go_wp2_with (go_at_call 15; fail)
      (with_reducible refine (A15.out _).mono ?_)
      rintro e6 w6 ⟨rfl, hg⟩
      have B6 := bel_trans B5 hg
      go_wp2
      go_ret
      exact ⟨rfl, B6⟩

end Go.Proofs.Ytnjkbmkbifbgkaa
