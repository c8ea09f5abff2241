import Derived.Test.YtecpdngaagmgfaaProg
import Derived.WalkKit
import Derived.WalkLawsBesides
import Derived.Outline
import Derived.Lib.Walk
import Derived.Deep.QuietTactic
import Derived.BigQuiet
import Derived.RowKit3
import Derived.Deep.LoopGhost
import Derived.Great.Walk
import Derived.Great.BuildSlice
import Derived.Laws.Rows
import Derived.Laws.Tables
import Derived.Laws.CopyOwn
import Derived.Lib.Hide
import Derived.Handy
import Derived.Deep.Onto
import Derived.WalkSpells
import Derived.Deep.RegionHeld3
import Derived.Test.YtecpdngaagmgfaaA1
import Derived.Test.YtecpdngaagmgfaaA2
import Derived.Test.YtecpdngaagmgfaaA3
import Derived.Test.YtecpdngaagmgfaaB2
import Derived.Test.YtecpdngaagmgfaaB3
import Derived.Test.YtecpdngaagmgfaaB4
import Derived.Test.YtecpdngaagmgfaaC1
import Derived.Test.YtecpdngaagmgfaaC2
import Derived.Test.YtecpdngaagmgfaaC3
import Derived.Test.YtecpdngaagmgfaaC4
import Derived.Test.YtecpdngaagmgfaaC5
import Derived.Test.YtecpdngaagmgfaaC6
import Derived.Test.YtecpdngaagmgfaaC7
import Derived.Test.YtecpdngaagmgfaaD1
import Derived.Test.YtecpdngaagmgfaaD5
import Derived.Test.YtecpdngaagmgfaaE1
import Derived.Test.YtecpdngaagmgfaaE2
import Derived.Test.YtecpdngaagmgfaaL20
import Derived.Test.YtecpdngaagmgfaaL5
import Derived.Test.YtecpdngaagmgfaaL3
namespace Go.Proofs.Ytecpdngaagmgfaa
open Go.RowKit
set_option maxHeartbeats 400000
set_option linter.unusedVariables false

theorem rLgo_mem : ∀ (k : Nat) (acc : List Int) (s : Rd), (∀ x ∈ acc, i64 x) → ∀ x ∈ (rLgo k acc s).1, i64 x
  | 0, acc, s, h => h
  | k + 1, acc, s, h => by
    unfold rLgo
    split
    · intro x hx
      cases hx
    · refine rLgo_mem k _ _ (fun x hx => ?_)
      rcases List.mem_append.1 hx with h1 | h1
      · exact h x h1
      · rw [List.mem_singleton] at h1
        subst h1
        exact rI_bd s
theorem rL_mem (m : Int) (s : Rd) : ∀ x ∈ (rL m s).1, i64 x := rLgo_mem _ _ _ (fun x h => by cases h)
theorem rL_lim2 (m : Int) (s : Rd) : (rL m s).1.length ≤ s.1.length := by
  have h1 := (rLgo_len (rC m s).1 [] (rC m s).2).2
  have h2 := rC_len m s
  unfold rL
  simp only [List.length_nil] at h1
  omega
theorem rT_lim (m : Int) (s : Rd) : (rT m s).1.length ≤ s.1.length := by
  have h2 := rC_len m s
  unfold rT
  split
  · simp
  · split
    · simp
    · simp only [List.length_take]
      omega
/-- what the tail of a round wants: the bytes in front of what is left. -/
theorem front {S t r : List UInt8} (h : t ++ r = S) : (mkS S).extract 0 t.length = mkS t ∧ S.length = t.length + r.length := by
  subst h
  refine ⟨?_, by simp⟩
  rw [mkS_take _ _ (by simp)]
  simp

set_option maxHeartbeats 4000000 in
theorem l7 (S : List UInt8) (w : World) (hS : S.length ≤ 17592186044000) :
    Calls Try.prog 7 #[.string (mkS S)] w fun e w' => e = .returned (.bool true) ∧ Below w.heap.size w w' := by
  have N1 := Lib.hid (fun W => c18 S W (by omega))
  have ER := Lib.hid (fun v st W h => e23 v st W h)
  have LR := Lib.hid (fun v st W h => e21 v st W h)
  obtain ⟨n, hn⟩ : ∃ n, S.length = n := ⟨_, rfl⟩
  have gs : (mkS S).size = n := hn
  have HS := Lib.hid hS
  rw [hn] at hS
  go_enter Try.func7, Try.ntmps7
  go_wp2
  go_loopw [3] (fun i W => ∃ k : Nat, k ≤ 4 ∧ i = .int .i64 (k : Int) ∧ Below w.heap.size w W) (fun i _ => (4 - (intOf i).toNat))
  case atStart => exact ⟨0, by omega, rfl, Below.refl _ w⟩
  case round =>
    obtain ⟨k, hk, rfl, hB⟩ := hrel
    have HB := Lib.hid hB
    clear hB
    rcases (show k = 0 ∨ k = 1 ∨ k = 2 ∨ k = 3 ∨ k = 4 by omega) with rfl | rfl | rfl | rfl | rfl
    · obtain ⟨t, ht⟩ : ∃ t, encU (rU (S, 0)).1 = t := ⟨_, rfl⟩
      obtain ⟨s', hs'⟩ : ∃ s', (rU (S, 0)).2 = s' := ⟨_, rfl⟩
      have bk : Hid (s'.2 = 0 → t ++ s'.1 = S) := Lib.hid (by rw [← ht, ← hs']; exact rU_back)
      have C1 := Lib.hid (fun v W h => e31 v (S, 0) W h)
      rw [hs'] at C1
      have C2 := Lib.hid (fun W => c9 (rU (S, 0)).1 W (rU_lt _))
      rw [ht] at C2
      clear ht hs'
      go_wp2_with (go_at_call 18; fail)
      (with_reducible refine (N1.out _).mono ?_)
      rintro e1 w1 ⟨_, rfl, rfl, hr1, hg1⟩
      have hB1 := bel0 HB.out hg1
      have hp1 := Lib.hid (show w.heap.size ≤ wr.heap.size from HB.out.size)
      generalize wr.heap.size = p at *
      have HR1 := Lib.hid hr1
      have HB1 := Lib.hid hB1
      clear hr1 hg1 hB1
      go_wp2_with (go_at_call 31; fail)
      (with_reducible refine (C1.out _ _ HR1.out).mono ?_)
      rintro e1 w2 ⟨rfl, hr2, hg2⟩
      have hB2 := bel HB1.out hg2 hp1.out
      have HB2 := Lib.hid hB2
      have HR2 := Lib.hid hr2
      clear hr2 hg2 hB2
      go_wp2_with (go_at_call 9; fail)
      (with_reducible refine (C2.out _).mono ?_)
      rintro e1 w3 ⟨rfl, hg3⟩
      have HB3 := Lib.hid (belB HB2.out hg3)
      have HR3 := Lib.hid (rdr_gr HR2.out hg3)
      clear hg3
      go_wp2_with (go_at_call 23; fail)
      (with_reducible refine (ER.out _ _ _ HR3.out).mono ?_)
      rintro e1 w4 ⟨rfl, rfl⟩
      obtain ⟨r, x⟩ := s'
      by_cases h0 : x = 0
      · subst h0
        obtain ⟨h1, h2⟩ := front (bk.out rfl)
        obtain ⟨c, hc⟩ : ∃ c, t.length = c := ⟨_, rfl⟩
        obtain ⟨q, hq⟩ : ∃ q, r.length = q := ⟨_, rfl⟩
        rw [hc, hq, hn] at h2
        rw [hc] at h1
        have L1 := Lib.hid (LR.out _ _ _ HR3.out)
        rw [show leftR (r, 0) = q from hq] at L1
        clear hc hq
        have kk : IntKind.i64.wrap ((n : Int) - (q : Int)) = (c : Int) := by rw [h2]; exact (IntWalk.i64_in _ (by omega)).trans (by omega)
        have k1 : ¬ ((c : Int) < 0) := by omega
        have k2 : ¬ ((n : Int) < (c : Int)) := by omega
        have k3 : c ≤ n := by omega
        go_wp2_with (go_at_call 21; fail)
        (with_reducible refine L1.out.mono ?_)
        rintro e1 w4 ⟨rfl, rfl⟩
        clear h2 L1
        go_wp2
        go_roundw
        case rel => exact ⟨1, by omega, by simp, HB3.out⟩
        case measure => simp [intOf]
      · have h1 : (x == 0) = false := by simp [h0]
        clear h0
        go_wp2
        go_roundw
        case rel => exact ⟨1, by omega, by simp, HB3.out⟩
        case measure => simp [intOf]
    · obtain ⟨t, ht⟩ : ∃ t, encI (rI (S, 0)).1 = t := ⟨_, rfl⟩
      obtain ⟨s', hs'⟩ : ∃ s', (rI (S, 0)).2 = s' := ⟨_, rfl⟩
      have bk : Hid (s'.2 = 0 → t ++ s'.1 = S) := Lib.hid (by rw [← ht, ← hs']; exact rI_back)
      have C1 := Lib.hid (fun v W h => e30 v (S, 0) W h)
      rw [hs'] at C1
      have C2 := Lib.hid (fun W => c11 (rI (S, 0)).1 W (rI_bd _))
      rw [ht] at C2
      clear ht hs'
      go_wp2_with (go_at_call 18; fail)
      (with_reducible refine (N1.out _).mono ?_)
      rintro e1 w1 ⟨_, rfl, rfl, hr1, hg1⟩
      have hB1 := bel0 HB.out hg1
      have hp1 := Lib.hid (show w.heap.size ≤ wr.heap.size from HB.out.size)
      generalize wr.heap.size = p at *
      have HR1 := Lib.hid hr1
      have HB1 := Lib.hid hB1
      clear hr1 hg1 hB1
      go_wp2_with (go_at_call 30; fail)
      (with_reducible refine (C1.out _ _ HR1.out).mono ?_)
      rintro e1 w2 ⟨rfl, hr2, hg2⟩
      have hB2 := bel HB1.out hg2 hp1.out
      have HB2 := Lib.hid hB2
      have HR2 := Lib.hid hr2
      clear hr2 hg2 hB2
      go_wp2_with (go_at_call 11; fail)
      (with_reducible refine (C2.out _).mono ?_)
      rintro e1 w3 ⟨rfl, hg3⟩
      have HB3 := Lib.hid (belB HB2.out hg3)
      have HR3 := Lib.hid (rdr_gr HR2.out hg3)
      clear hg3
      go_wp2_with (go_at_call 23; fail)
      (with_reducible refine (ER.out _ _ _ HR3.out).mono ?_)
      rintro e1 w4 ⟨rfl, rfl⟩
      obtain ⟨r, x⟩ := s'
      by_cases h0 : x = 0
      · subst h0
        obtain ⟨h1, h2⟩ := front (bk.out rfl)
        obtain ⟨c, hc⟩ : ∃ c, t.length = c := ⟨_, rfl⟩
        obtain ⟨q, hq⟩ : ∃ q, r.length = q := ⟨_, rfl⟩
        rw [hc, hq, hn] at h2
        rw [hc] at h1
        have L1 := Lib.hid (LR.out _ _ _ HR3.out)
        rw [show leftR (r, 0) = q from hq] at L1
        clear hc hq
        have kk : IntKind.i64.wrap ((n : Int) - (q : Int)) = (c : Int) := by rw [h2]; exact (IntWalk.i64_in _ (by omega)).trans (by omega)
        have k1 : ¬ ((c : Int) < 0) := by omega
        have k2 : ¬ ((n : Int) < (c : Int)) := by omega
        have k3 : c ≤ n := by omega
        go_wp2_with (go_at_call 21; fail)
        (with_reducible refine L1.out.mono ?_)
        rintro e1 w4 ⟨rfl, rfl⟩
        clear h2 L1
        go_wp2
        go_roundw
        case rel => exact ⟨2, by omega, by simp, HB3.out⟩
        case measure => simp [intOf]
      · have h1 : (x == 0) = false := by simp [h0]
        clear h0
        go_wp2
        go_roundw
        case rel => exact ⟨2, by omega, by simp, HB3.out⟩
        case measure => simp [intOf]
    · obtain ⟨t, ht⟩ : ∃ t, encT (rT (n : Int) (S, 0)).1 = t := ⟨_, rfl⟩
      obtain ⟨s', hs'⟩ : ∃ s', (rT (n : Int) (S, 0)).2 = s' := ⟨_, rfl⟩
      have bk : Hid (s'.2 = 0 → t ++ s'.1 = S) := Lib.hid (by rw [← ht, ← hs']; exact rT_back)
      have C1 := Lib.hid (fun v W h => e27 v (S, 0) (n : Int) W (by unfold i64; omega) h)
      rw [hs'] at C1
      have C2 := Lib.hid (fun W => c13 (rT (n : Int) (S, 0)).1 W (by have := rT_lim (n : Int) (S, 0); have := HS.out; simp only at *; omega))
      rw [ht] at C2
      clear ht hs'
      go_wp2_with (go_at_call 18; fail)
      (with_reducible refine (N1.out _).mono ?_)
      rintro e1 w1 ⟨_, rfl, rfl, hr1, hg1⟩
      have hB1 := bel0 HB.out hg1
      have hp1 := Lib.hid (show w.heap.size ≤ wr.heap.size from HB.out.size)
      generalize wr.heap.size = p at *
      have HR1 := Lib.hid hr1
      have HB1 := Lib.hid hB1
      clear hr1 hg1 hB1
      go_wp2_with (go_at_call 27; fail)
      (with_reducible refine (C1.out _ _ HR1.out).mono ?_)
      rintro e1 w2 ⟨rfl, hr2, hg2⟩
      have hB2 := bel HB1.out hg2 hp1.out
      have HB2 := Lib.hid hB2
      have HR2 := Lib.hid hr2
      clear hr2 hg2 hB2
      go_wp2_with (go_at_call 13; fail)
      (with_reducible refine (C2.out _).mono ?_)
      rintro e1 w3 ⟨rfl, hg3⟩
      have HB3 := Lib.hid (belB HB2.out hg3)
      have HR3 := Lib.hid (rdr_gr HR2.out hg3)
      clear hg3
      go_wp2_with (go_at_call 23; fail)
      (with_reducible refine (ER.out _ _ _ HR3.out).mono ?_)
      rintro e1 w4 ⟨rfl, rfl⟩
      obtain ⟨r, x⟩ := s'
      by_cases h0 : x = 0
      · subst h0
        obtain ⟨h1, h2⟩ := front (bk.out rfl)
        obtain ⟨c, hc⟩ : ∃ c, t.length = c := ⟨_, rfl⟩
        obtain ⟨q, hq⟩ : ∃ q, r.length = q := ⟨_, rfl⟩
        rw [hc, hq, hn] at h2
        rw [hc] at h1
        have L1 := Lib.hid (LR.out _ _ _ HR3.out)
        rw [show leftR (r, 0) = q from hq] at L1
        clear hc hq
        have kk : IntKind.i64.wrap ((n : Int) - (q : Int)) = (c : Int) := by rw [h2]; exact (IntWalk.i64_in _ (by omega)).trans (by omega)
        have k1 : ¬ ((c : Int) < 0) := by omega
        have k2 : ¬ ((n : Int) < (c : Int)) := by omega
        have k3 : c ≤ n := by omega
        go_wp2_with (go_at_call 21; fail)
        (with_reducible refine L1.out.mono ?_)
        rintro e1 w4 ⟨rfl, rfl⟩
        clear h2 L1
        go_wp2
        go_roundw
        case rel => exact ⟨3, by omega, by simp, HB3.out⟩
        case measure => simp [intOf]
      · have h1 : (x == 0) = false := by simp [h0]
        clear h0
        go_wp2
        go_roundw
        case rel => exact ⟨3, by omega, by simp, HB3.out⟩
        case measure => simp [intOf]
    · obtain ⟨t, ht⟩ : ∃ t, encL (rL (n : Int) (S, 0)).1 = t := ⟨_, rfl⟩
      obtain ⟨s', hs'⟩ : ∃ s', (rL (n : Int) (S, 0)).2 = s' := ⟨_, rfl⟩
      have bk : Hid (s'.2 = 0 → t ++ s'.1 = S) := Lib.hid (by rw [← ht, ← hs']; exact rL_back)
      have C1 := Lib.hid (fun v W h => e29 v (S, 0) (n : Int) W (by unfold i64; omega) h (fun j _ hj => by have := HS.out; simp only at *; omega))
      rw [hs'] at C1
      have C2 := Lib.hid (fun v W h => c15 v (rL (n : Int) (S, 0)).1 W h (by have := rL_lim2 (n : Int) (S, 0); have := HS.out; simp only at *; omega) (rL_mem _ _))
      rw [ht] at C2
      clear ht hs'
      go_wp2_with (go_at_call 18; fail)
      (with_reducible refine (N1.out _).mono ?_)
      rintro e1 w1 ⟨_, rfl, rfl, hr1, hg1⟩
      have hB1 := bel0 HB.out hg1
      have hp1 := Lib.hid (show w.heap.size ≤ wr.heap.size from HB.out.size)
      generalize wr.heap.size = p at *
      have HR1 := Lib.hid hr1
      have HB1 := Lib.hid hB1
      clear hr1 hg1 hB1
      go_wp2_with (go_at_call 29; fail)
      (with_reducible refine (C1.out _ _ HR1.out).mono ?_)
      rintro e1 w2 ⟨u, rfl, ha2, ho2, hr2, hg2⟩
      have hB2 := bel HB1.out hg2 hp1.out
      have HB2 := Lib.hid hB2
      have HR2 := Lib.hid hr2
      have HA2 := Lib.hid ha2
      clear ha2 ho2
      clear hr2 hg2 hB2
      go_wp2_with (go_at_call 15; fail)
      (with_reducible refine (C2.out _ _ HA2.out).mono ?_)
      rintro e1 w3 ⟨rfl, hg3⟩
      have HB3 := Lib.hid (belB HB2.out hg3)
      have HR3 := Lib.hid (rdr_gr HR2.out hg3)
      clear hg3
      go_wp2_with (go_at_call 23; fail)
      (with_reducible refine (ER.out _ _ _ HR3.out).mono ?_)
      rintro e1 w4 ⟨rfl, rfl⟩
      obtain ⟨r, x⟩ := s'
      by_cases h0 : x = 0
      · subst h0
        obtain ⟨h1, h2⟩ := front (bk.out rfl)
        obtain ⟨c, hc⟩ : ∃ c, t.length = c := ⟨_, rfl⟩
        obtain ⟨q, hq⟩ : ∃ q, r.length = q := ⟨_, rfl⟩
        rw [hc, hq, hn] at h2
        rw [hc] at h1
        have L1 := Lib.hid (LR.out _ _ _ HR3.out)
        rw [show leftR (r, 0) = q from hq] at L1
        clear hc hq
        have kk : IntKind.i64.wrap ((n : Int) - (q : Int)) = (c : Int) := by rw [h2]; exact (IntWalk.i64_in _ (by omega)).trans (by omega)
        have k1 : ¬ ((c : Int) < 0) := by omega
        have k2 : ¬ ((n : Int) < (c : Int)) := by omega
        have k3 : c ≤ n := by omega
        go_wp2_with (go_at_call 21; fail)
        (with_reducible refine L1.out.mono ?_)
        rintro e1 w4 ⟨rfl, rfl⟩
        clear h2 L1
        go_wp2
        go_roundw
        case rel => exact ⟨4, by omega, by simp, HB3.out⟩
        case measure => simp [intOf]
      · have h1 : (x == 0) = false := by simp [h0]
        clear h0
        go_wp2
        go_roundw
        case rel => exact ⟨4, by omega, by simp, HB3.out⟩
        case measure => simp [intOf]
    · go_wp2_with (go_at_call 17; fail)
      (with_reducible refine (c17 _).mono ?_)
      rintro e1 w1 ⟨rfl, hb⟩
      have HF := Lib.hid (belB HB.out hb)
      clear hb
      go_wp2
      go_ret
      exact ⟨rfl, HF.out⟩

end Go.Proofs.Ytecpdngaagmgfaa
