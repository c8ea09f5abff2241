import Derived.Test.YtmafmpgpaioniaaProg
import Derived.WalkKit
import Derived.WalkLawsBesides
import Derived.Outline
import Derived.Lib.Walk
import Derived.Deep.QuietTactic
import Derived.BigQuiet
import Derived.RowKit3
import Derived.Deep.LoopGhost
import Derived.Laws.Rows
import Derived.Laws.Tables
import Derived.Laws.CopyOwn
import Derived.Lib.Hide
import Derived.Handy
import Derived.Deep.Onto
import Derived.IntWalk
import Derived.Deep.WholeRow
import Derived.Laws.ResultCell
import Derived.Test.YtmafmpgpaioniaaA1
namespace Go.Proofs.Ytmafmpgpaioniaa
open Go.RowKit
set_option maxHeartbeats 400000
set_option linter.unusedVariables false

set_option maxHeartbeats 8000000 in
set_option maxRecDepth 100000 in
theorem c11 (m : Nat → Int) (w : World) :
    Calls Try.prog 11 #[.agg (arr 9 m)] w fun e w' => e = .returned (.int .i64 (ckM m)) ∧ Below w.heap.size w w' := by
  obtain ⟨E, hE⟩ : ∃ E, ckM m = E := ⟨_, rfl⟩
  have HE := Lib.hid hE
  rw [hE, ← arr9]
  clear hE
  go_enter Try.func11, Try.ntmps11
  go_wp2
  have hB := Lib.hid (bel_al (Below.refl w.heap.size w) (.cells #[.int .i64 (m 0), .int .i64 (m 1), .int .i64 (m 2), .int .i64 (m 3), .int .i64 (m 4), .int .i64 (m 5), .int .i64 (m 6), .int .i64 (m 7), .int .i64 (m 8)] 22))
  generalize w.alloc (.cells #[.int .i64 (m 0), .int .i64 (m 1), .int .i64 (m 2), .int .i64 (m 3), .int .i64 (m 4), .int .i64 (m 5), .int .i64 (m 6), .int .i64 (m 7), .int .i64 (m 8)] 22) = V at *
  go_loop [6] (fun ii => ∃ k : Nat, ii = .int .i64 (k : Int) ∧ k ≤ 9 ∧ Hid (∀ j, j < k → -1048576 ≤ m j ∧ m j ≤ 1048576)) (fun ii => (9 - (intOf ii).toNat))
  case atStart => exact ⟨0, rfl, by omega, Lib.hid (fun j hj => absurd hj (Nat.not_lt_zero j))⟩
  case round =>
    obtain ⟨k, rfl, hk, hr⟩ := hrel
    by_cases hlt : k < 9
    · have hbad := Lib.hid (@okM_bad m k hlt)
      have hnext := Lib.hid (fun (h : -1048576 ≤ m k ∧ m k ≤ 1048576) => (fun j hj => by
        rcases Nat.lt_or_ge j k with h1 | h1
        · exact hr.out j h1
        · obtain rfl : j = k := by omega
          exact h : ∀ j, j < k + 1 → -1048576 ≤ m j ∧ m j ≤ 1048576))
      have hx := idx22 m k hlt
      have kk : IntKind.i64.wrap ((k : Int) + 1) = (k : Int) + 1 := IntWalk.i64_in _ (by omega)
      clear hr hk
      obtain ⟨x, hxx⟩ : ∃ x, m k = x := ⟨_, rfl⟩
      rw [hxx] at hx hbad hnext
      clear hxx
      generalize #[Value.int .i64 (m 0), .int .i64 (m 1), .int .i64 (m 2), .int .i64 (m 3), .int .i64 (m 4), .int .i64 (m 5), .int .i64 (m 6), .int .i64 (m 7), .int .i64 (m 8)] = M at *
      by_cases h1 : x < -1048576
      · have hb := hbad.out (Or.inl h1)
        rw [HE.out] at hb
        subst hb
        clear hbad hnext HE
        go_wp2
        go_ret
        exact ⟨rfl, hB.out⟩
      · by_cases h2 : 1048576 < x
        · have hb := hbad.out (Or.inr h2)
          rw [HE.out] at hb
          subst hb
          clear hbad hnext HE
          go_wp2
          go_ret
          exact ⟨rfl, hB.out⟩
        · have hn := Lib.hid (hnext.out ⟨by omega, by omega⟩)
          clear hbad hnext HE
          go_wp2
          go_roundw
          case rel => exact ⟨k + 1, by simp, by omega, hn⟩
          case measure => simp [intOf]; omega
    · obtain rfl : k = 9 := by omega
      have e := HE.out
      rw [ckM_ok hr.out] at e
      subst e
      clear hlt hk
      go_wp2
      go_ret
      exact ⟨rfl, hB.out⟩

end Go.Proofs.Ytmafmpgpaioniaa
