import Derived.Test.YtbkhfebopmeanaaProg
import Derived.WalkKit
import Derived.WalkLawsBesides
import Derived.Outline
import Derived.Lib.Walk
import Derived.Deep.QuietTactic
import Derived.BigQuiet
import Derived.RowKit3
import Derived.Deep.LoopGhost
import Derived.Great.Walk
import Derived.Great.BuildSlice
import Derived.Laws.Rows
import Derived.Laws.Tables
import Derived.Laws.CopyOwn
import Derived.Lib.Hide
import Derived.Handy
import Derived.Test.YtbkhfebopmeanaaV2
import Derived.Test.YtbkhfebopmeanaaV3
import Derived.Test.YtbkhfebopmeanaaV4
import Derived.Test.YtbkhfebopmeanaaV5
import Derived.Test.YtbkhfebopmeanaaV6
import Derived.StillTailTactics
import Derived.Test.YtbkhfebopmeanaaV7
import Derived.Test.YtbkhfebopmeanaaV8
import Derived.Deep.Onto
import Derived.Test.YtbkhfebopmeanaaV9
import Derived.Test.YtbkhfebopmeanaaV10
namespace Go.Proofs.Ytbkhfebopmeanaa
open Go.RowKit
set_option maxHeartbeats 400000
set_option linter.unusedVariables false
theorem cellsR_len (l : List Rc) : (cellsR l).length = l.length * 4 := by
  induction l with
  | nil => rfl
  | cons p l ih => rw [show cellsR (p :: l) = cellsR [p] ++ cellsR l from cellsR_append [p] l, List.length_append, ih, List.length_cons, Nat.succ_mul, Nat.add_comm]; rfl
theorem cellsR_at (l : List Rc) (k : Nat) (hk : k < l.length) : (cellsR l)[k * 4]? = some (.int .i64 (l.getD k Rc.zero).x) ∧ (cellsR l)[k * 4 + 1]? = some (.int .i64 (l.getD k Rc.zero).y) ∧ (cellsR l)[k * 4 + 2]? = some (.int .i64 (l.getD k Rc.zero).w) ∧ (cellsR l)[k * 4 + 3]? = some (.int .i64 (l.getD k Rc.zero).h) := by
  induction l generalizing k with
  | nil => simp at hk
  | cons p l ih =>
    rw [show cellsR (p :: l) = cellsR [p] ++ cellsR l from cellsR_append [p] l]
    cases k with
    | zero => exact ⟨rfl, rfl, rfl, rfl⟩
    | succ k =>
      obtain ⟨h0, h1, h2, h3⟩ := ih k (by simpa using hk)
      have e : ∀ o, (cellsR [p] ++ cellsR l)[(k + 1) * 4 + o]? = (cellsR l)[k * 4 + o]? := fun o => by
        rw [List.getElem?_append_right (by show 4 ≤ _; omega)]
        congr 1
        show (k + 1) * 4 + o - 4 = _
        omega
      exact ⟨(e 0).trans h0, (e 1).trans h1, (e 2).trans h2, (e 3).trans h3⟩
theorem t31_empty (a1 a2 : Option Addr) (c1 c2 : Nat) (w : World) : Calls Try.prog 31 #[.slice a1 0 c1, .slice a2 0 c2] w fun e w' => e = .returned (.bool true) ∧ ∃ q, w' = w.drewN q := by
  go_enter Try.func31, Try.ntmps31
  go_wp2
  refine wp_loop_rounds 1 ?_
  rw [rounds_succ]
  go_wp2
  go_ret
  exact ⟨rfl, 0, rfl⟩
theorem t31_full (g1 g2 c1 c2 n : Nat) (l : List Rc) (w : World) (hl : l.length = n) (hn : n ≤ 1048576)
    (hc1 : ∀ k, k < n → w.cell? ⟨g1, k * 4, none⟩ = some (.int .i64 (l.getD k Rc.zero).x) ∧ w.cell? ⟨g1, k * 4 + 1, none⟩ = some (.int .i64 (l.getD k Rc.zero).y) ∧ w.cell? ⟨g1, k * 4 + 2, none⟩ = some (.int .i64 (l.getD k Rc.zero).w) ∧ w.cell? ⟨g1, k * 4 + 3, none⟩ = some (.int .i64 (l.getD k Rc.zero).h))
    (hc2 : ∀ k, k < n → w.cell? ⟨g2, k * 4, none⟩ = some (.int .i64 (l.getD k Rc.zero).x) ∧ w.cell? ⟨g2, k * 4 + 1, none⟩ = some (.int .i64 (l.getD k Rc.zero).y) ∧ w.cell? ⟨g2, k * 4 + 2, none⟩ = some (.int .i64 (l.getD k Rc.zero).w) ∧ w.cell? ⟨g2, k * 4 + 3, none⟩ = some (.int .i64 (l.getD k Rc.zero).h)) :
    Calls Try.prog 31 #[.slice (some ⟨g1, 0, none⟩) n c1, .slice (some ⟨g2, 0, none⟩) n c2] w fun e w' => e = .returned (.bool true) ∧ ∃ q, w' = w.drewN q := by
  go_enter Try.func31, Try.ntmps31
  go_wp2
  go_loopw [13] (fun i wr => ∃ k : Nat, k ≤ n ∧ i = .int .i64 k ∧ ∃ q, wr = w.drewN q) (fun i _ => n - (intOf i).toNat)
  case atStart => exact ⟨0, by omega, rfl, 0, rfl⟩
  case round =>
    obtain ⟨k, hk, rfl, q, rfl⟩ := hrel
    by_cases hlt : k < n
    · obtain ⟨f0, f1, f2, f3⟩ := hc1 k hlt
      obtain ⟨h0, h1, h2, h3⟩ := hc2 k hlt
      generalize l.getD k Rc.zero = S at *
      clear hc1 hc2
      go_wp2
      go_quiet (fail)
      go_wp2
      go_roundw
      case rel => exact ⟨k + 1, by omega, by simp, _, rfl⟩
      case measure => simp [intOf]; omega
    · obtain rfl : k = n := by omega
      go_wp2
      go_ret
      exact ⟨rfl, q, rfl⟩
/-- the comparison of two lists that hold the same. -/
theorem t31 (B1 B2 : Nat) (v1 v2 : Value) (l : List Rc) (w : World) (hn : l.length ≤ 1048576) (h1 : w.ownsRow B1 23 4 v1 l.length (cellsR l)) (h2 : w.ownsRow B2 23 4 v2 l.length (cellsR l)) :
    Calls Try.prog 31 #[v1, v2] w fun e w' => e = .returned (.bool true) ∧ ∃ q, w' = w.drewN q := by
  rcases h1.2 with ⟨rfl, hz⟩ | ⟨g1, c1, cur1, rfl, _⟩ <;> rcases h2.2 with ⟨rfl, hz2⟩ | ⟨g2, c2, cur2, rfl, _⟩
  · exact t31_empty _ _ _ _ w
  · rw [hz]; exact t31_empty _ _ _ _ w
  · rw [hz2]; exact t31_empty _ _ _ _ w
  · have hA := fun k (hk : k < l.length) => cellsR_at l k hk
    refine t31_full g1 g2 c1 c2 l.length l w rfl hn (fun k hk => ?_) (fun k hk => ?_)
    · obtain ⟨f0, f1, f2, f3⟩ := hA k hk
      exact ⟨(h1.cellAt (k * 4) (by omega)).trans f0, (h1.cellAt (k * 4 + 1) (by omega)).trans f1, (h1.cellAt (k * 4 + 2) (by omega)).trans f2, (h1.cellAt (k * 4 + 3) (by omega)).trans f3⟩
    · obtain ⟨f0, f1, f2, f3⟩ := hA k hk
      exact ⟨(h2.cellAt (k * 4) (by omega)).trans f0, (h2.cellAt (k * 4 + 1) (by omega)).trans f1, (h2.cellAt (k * 4 + 2) (by omega)).trans f2, (h2.cellAt (k * 4 + 3) (by omega)).trans f3⟩
theorem cellsP_len (l : List (Int × Int)) : (cellsP l).length = l.length * 2 := by
  induction l with
  | nil => rfl
  | cons p l ih => rw [show cellsP (p :: l) = cellsP [p] ++ cellsP l from cellsP_append [p] l, List.length_append, ih, List.length_cons, Nat.succ_mul, Nat.add_comm]; rfl
theorem cellsP_at (l : List (Int × Int)) (k : Nat) (hk : k < l.length) : (cellsP l)[k * 2]? = some (.int .i64 (l.getD k (0, 0)).1) ∧ (cellsP l)[k * 2 + 1]? = some (.int .i64 (l.getD k (0, 0)).2) := by
  induction l generalizing k with
  | nil => simp at hk
  | cons p l ih =>
    rw [show cellsP (p :: l) = cellsP [p] ++ cellsP l from cellsP_append [p] l]
    cases k with
    | zero => exact ⟨rfl, rfl⟩
    | succ k =>
      obtain ⟨h0, h1⟩ := ih k (by simpa using hk)
      have e : ∀ o, (cellsP [p] ++ cellsP l)[(k + 1) * 2 + o]? = (cellsP l)[k * 2 + o]? := fun o => by
        rw [List.getElem?_append_right (by show 2 ≤ _; omega)]
        congr 1
        show (k + 1) * 2 + o - 2 = _
        omega
      exact ⟨(e 0).trans h0, (e 1).trans h1⟩
theorem t36_empty (a1 a2 : Option Addr) (c1 c2 : Nat) (w : World) : Calls Try.prog 36 #[.slice a1 0 c1, .slice a2 0 c2] w fun e w' => e = .returned (.bool true) ∧ ∃ q, w' = w.drewN q := by
  go_enter Try.func36, Try.ntmps36
  go_wp2
  refine wp_loop_rounds 1 ?_
  rw [rounds_succ]
  go_wp2
  go_ret
  exact ⟨rfl, 0, rfl⟩
theorem t36_full (g1 g2 c1 c2 n : Nat) (l : List (Int × Int)) (w : World) (hl : l.length = n) (hn : n ≤ 1048576)
    (hc1 : ∀ k, k < n → w.cell? ⟨g1, k * 2, none⟩ = some (.int .i64 (l.getD k (0, 0)).1) ∧ w.cell? ⟨g1, k * 2 + 1, none⟩ = some (.int .i64 (l.getD k (0, 0)).2))
    (hc2 : ∀ k, k < n → w.cell? ⟨g2, k * 2, none⟩ = some (.int .i64 (l.getD k (0, 0)).1) ∧ w.cell? ⟨g2, k * 2 + 1, none⟩ = some (.int .i64 (l.getD k (0, 0)).2)) :
    Calls Try.prog 36 #[.slice (some ⟨g1, 0, none⟩) n c1, .slice (some ⟨g2, 0, none⟩) n c2] w fun e w' => e = .returned (.bool true) ∧ ∃ q, w' = w.drewN q := by
  go_enter Try.func36, Try.ntmps36
  go_wp2
  go_loopw [13] (fun i wr => ∃ k : Nat, k ≤ n ∧ i = .int .i64 k ∧ ∃ q, wr = w.drewN q) (fun i _ => n - (intOf i).toNat)
  case atStart => exact ⟨0, by omega, rfl, 0, rfl⟩
  case round =>
    obtain ⟨k, hk, rfl, q, rfl⟩ := hrel
    by_cases hlt : k < n
    · obtain ⟨f0, f1⟩ := hc1 k hlt
      obtain ⟨h0, h1⟩ := hc2 k hlt
      generalize l.getD k (0, 0) = S at *
      clear hc1 hc2
      go_wp2
      go_quiet (fail)
      go_wp2
      go_roundw
      case rel => exact ⟨k + 1, by omega, by simp, _, rfl⟩
      case measure => simp [intOf]; omega
    · obtain rfl : k = n := by omega
      go_wp2
      go_ret
      exact ⟨rfl, q, rfl⟩
/-- the comparison of two lists that hold the same. -/
theorem t36 (B1 B2 : Nat) (v1 v2 : Value) (l : List (Int × Int)) (w : World) (hn : l.length ≤ 1048576) (h1 : w.ownsRow B1 25 2 v1 l.length (cellsP l)) (h2 : w.ownsRow B2 25 2 v2 l.length (cellsP l)) :
    Calls Try.prog 36 #[v1, v2] w fun e w' => e = .returned (.bool true) ∧ ∃ q, w' = w.drewN q := by
  rcases h1.2 with ⟨rfl, hz⟩ | ⟨g1, c1, cur1, rfl, _⟩ <;> rcases h2.2 with ⟨rfl, hz2⟩ | ⟨g2, c2, cur2, rfl, _⟩
  · exact t36_empty _ _ _ _ w
  · rw [hz]; exact t36_empty _ _ _ _ w
  · rw [hz2]; exact t36_empty _ _ _ _ w
  · have hA := fun k (hk : k < l.length) => cellsP_at l k hk
    refine t36_full g1 g2 c1 c2 l.length l w rfl hn (fun k hk => ?_) (fun k hk => ?_)
    · obtain ⟨f0, f1⟩ := hA k hk
      exact ⟨(h1.cellAt (k * 2) (by omega)).trans f0, (h1.cellAt (k * 2 + 1) (by omega)).trans f1⟩
    · obtain ⟨f0, f1⟩ := hA k hk
      exact ⟨(h2.cellAt (k * 2) (by omega)).trans f0, (h2.cellAt (k * 2 + 1) (by omega)).trans f1⟩
end Go.Proofs.Ytbkhfebopmeanaa
