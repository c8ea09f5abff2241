import Derived.Test.YtnjkbmkbifbgkaaProg
import Derived.WalkKit
import Derived.WalkLawsBesides
import Derived.Outline
import Derived.Lib.Walk
import Derived.Deep.QuietTactic
import Derived.BigQuiet
import Derived.RowKit3
import Derived.Deep.LoopGhost
import Derived.Laws.Rows
import Derived.Laws.Tables
import Derived.Laws.CopyOwn
import Derived.Lib.Hide
import Derived.Handy
import Derived.Deep.Onto
import Derived.Test.YtnjkbmkbifbgkaaS17
namespace Go.Proofs.Ytnjkbmkbifbgkaa
open Go.RowKit
set_option maxHeartbeats 400000
set_option linter.unusedVariables false

set_option maxHeartbeats 8000000 in
theorem s24 (v : Value) (L : KL) (y : Int) (w : World) (h : argK w w.heap.size v L) :
    Calls Try.prog 24 #[v, .int .i64 y] w fun e w' => e = .returned (.int .i64 (backF L y)) ∧ Below w.heap.size w w' := by
  have CR := Lib.hid (s14 v L w h)
  have CA := Lib.hid (fun x W (hW : Below w.heap.size w W) => s17 v L x W (h.up hW hW.size))
  have C30 := Lib.hid (fun w => s30 y w)
  obtain ⟨ao, cap, rfl, h⟩ := h
  clear h
  obtain ⟨n, hn⟩ : ∃ n, L.length = n := ⟨_, rfl⟩
  obtain ⟨r, hr⟩ : ∃ r, ris L = r := ⟨_, rfl⟩
  rw [hn] at CR CA ⊢
  rw [hr] at CR
  cases r
  · have E : backF L y = -1 := by unfold backF; rw [if_neg (by rw [hr]; decide)]
    rw [E]
    clear E hr hn CA
    go_enter Try.func24, Try.ntmps24
    go_wp2_with (go_at_call 14; fail)
    (with_reducible refine CR.out.mono ?_)
    rintro e w1 ⟨rfl, hg⟩
    go_wp2
    go_ret
    exact ⟨rfl, hg⟩
  · have E : backF L y = backV L y := by unfold backF; rw [if_pos hr]
    rw [E]
    have M := Lib.hid (tst_mono hr y)
    have TE := Lib.hid (tst_end hr y)
    have IS := Lib.hid (fun r h0 h1 h2 => backV_is hr (y := y) (r := r) h0 h1 h2)
    have TT := Lib.hid (fun x => (show tst L y x = decide (cu y ≤ atF L x) from rfl))
    clear E hr hn
    generalize backV L y = R at *
    generalize cu y = u at *
    go_enter Try.func24, Try.ntmps24
    go_wp2_with (go_at_call 14; fail)
    (with_reducible refine CR.out.mono ?_)
    rintro e w1 ⟨rfl, hg⟩
    go_wp2
    go_loopw [5, 6, 7] (fun s5 s6 _ wr => ∃ lo hi : Nat, s5 = .int .i64 (lo : Int) ∧ s6 = .int .i64 (hi : Int) ∧ lo ≤ hi ∧ hi ≤ 65535 ∧ tst L y (hi : Int) = true ∧ (∀ x, 0 ≤ x → x < (lo : Int) → tst L y x = false) ∧ Below w.heap.size w wr) (fun s5 s6 _ _ => (intOf s6).toNat - (intOf s5).toNat)
    case atStart => exact ⟨0, 65535, rfl, rfl, by omega, by omega, TE.out, fun x h0 h1 => absurd h1 (by omega), hg⟩
    case round =>
      obtain ⟨lo, hi, rfl, rfl, hlh, hh, ht, hl, hnx⟩ := hrel
      have HT := Lib.hid ht
      have HL := Lib.hid hl
      clear ht hl hg
      by_cases hlt : lo < hi
      · obtain ⟨m, hm⟩ : ∃ m, (lo + hi) / 2 = m := ⟨_, rfl⟩
        have q1 : ((lo : Int) + (hi : Int)).tdiv 2 = (m : Int) := by rw [Int.tdiv_eq_ediv_of_nonneg (by omega)]; omega
        have q2 : ((lo : Int) + (hi : Int)) / 2 = (m : Int) := by omega
        have hd : (lo : Int) < (hi : Int) := by omega
        have b1 : lo ≤ m := by omega
        have b2 : m < hi := by omega
        have tm := TT.out (m : Int)
        have ca := fun W hW => CA.out (m : Int) W hW
        obtain ⟨a, ha⟩ : ∃ a, atF L (m : Int) = a := ⟨_, rfl⟩
        rw [ha] at tm
        simp only [ha] at ca
        have CM := Lib.hid ca
        clear ca ha hm
        by_cases hge : u ≤ a
        · have dg := decide_eq_true hge
          rw [dg] at tm
          have TM := Lib.hid tm
          clear tm
          go_wp2_with (first | (go_at_call 17; (with_reducible refine (CM.out _ hnx).mono ?_); rintro e w2 ⟨rfl, hg2⟩) | (go_at_call 30; (with_reducible refine (C30.out _).mono ?_); rintro e w3 ⟨rfl, rfl⟩))
          go_roundw
          case rel => exact ⟨lo, m, rfl, rfl, by omega, by omega, TM.out, HL.out, bel_trans hnx hg2⟩
          case measure => simp [intOf]; omega
        · have dg := decide_eq_false hge
          rw [dg] at tm
          have NX := Lib.hid (fun x (h0 : 0 ≤ x) (h1 : x < ((m + 1 : Nat) : Int)) => (show tst L y x = false from by
            cases hx : tst L y x
            · rfl
            · have := M.out x (m : Int) (by omega) hx
              rw [tm] at this; cases this))
          have kk : IntKind.i64.wrap ((m : Int) + 1) = (m : Int) + 1 := IntWalk.i64_in _ (by omega)
          clear tm
          go_wp2_with (first | (go_at_call 17; (with_reducible refine (CM.out _ hnx).mono ?_); rintro e w2 ⟨rfl, hg2⟩) | (go_at_call 30; (with_reducible refine (C30.out _).mono ?_); rintro e w3 ⟨rfl, rfl⟩))
          go_roundw
          case rel => exact ⟨m + 1, hi, by simp, rfl, by omega, by omega, HT.out, NX.out, bel_trans hnx hg2⟩
          case measure => simp [intOf]; omega
      · obtain rfl : hi = lo := by omega
        have E := Lib.hid (IS.out (hi : Int) (by omega) HT.out HL.out)
        clear HT HL CA C30 TT IS TE M CR
        go_wp2
        go_ret
        exact ⟨ret_int E.out.symm, hnx⟩

end Go.Proofs.Ytnjkbmkbifbgkaa
