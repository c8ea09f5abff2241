import Derived.Test.YtecpdngaagmgfaaProg
import Derived.WalkKit
import Derived.WalkLawsBesides
import Derived.Outline
import Derived.Lib.Walk
import Derived.Deep.QuietTactic
import Derived.BigQuiet
import Derived.RowKit3
import Derived.Deep.LoopGhost
import Derived.Great.Walk
import Derived.Great.BuildSlice
import Derived.Laws.Rows
import Derived.Laws.Tables
import Derived.Laws.CopyOwn
import Derived.Lib.Hide
import Derived.Handy
import Derived.Deep.Onto
import Derived.Deep.DeepAppendWide
import Derived.Laws.IdiomStrings
import Derived.Laws.BytesString
import Derived.Test.YtecpdngaagmgfaaA1
import Derived.Test.YtecpdngaagmgfaaA2
import Derived.Test.YtecpdngaagmgfaaA3
import Derived.Test.YtecpdngaagmgfaaB1
import Derived.Test.YtecpdngaagmgfaaB2
namespace Go.Proofs.Ytecpdngaagmgfaa
open Go.RowKit
set_option maxHeartbeats 400000
set_option linter.unusedVariables false

/-- a list of numbers that lies at a slice, in a block below B. -/
def argI (W : World) (B : Nat) (v : Value) (l : List Int) : Prop :=
  ∃ ao cap, v = .slice ao l.length cap ∧ (0 < l.length → ∃ g o, ao = some ⟨g, o, none⟩ ∧ g < B ∧ ∀ k, k < l.length → W.cell? ⟨g, o + k, none⟩ = some (.int .i64 (l.getD k 0)))
theorem argI.below {W W' : World} {B : Nat} {v : Value} {l : List Int} (h : argI W B v l) (hb : Below B W W') : argI W' B v l := by
  obtain ⟨ao, cap, rfl, h⟩ := h
  refine ⟨ao, cap, rfl, fun hl => ?_⟩
  obtain ⟨g, o, rfl, hB, hc⟩ := h hl
  exact ⟨g, o, rfl, hB, fun k hk => (hb.cell (p := ⟨g, o + k, none⟩) hB).trans (hc k hk)⟩
theorem argI.mono {W : World} {B B' : Nat} {v : Value} {l : List Int} (h : argI W B v l) (hb : B ≤ B') : argI W B' v l := by
  obtain ⟨ao, cap, rfl, h⟩ := h
  refine ⟨ao, cap, rfl, fun hl => ?_⟩
  obtain ⟨g, o, rfl, hB, hc⟩ := h hl
  exact ⟨g, o, rfl, Nat.lt_of_lt_of_le hB hb, hc⟩
theorem mkS_append (a b : List UInt8) : mkS a ++ mkS b = mkS (a ++ b) := by
  apply ByteArray.ext
  simp [mkS, ByteArray.data_append]
def i64 (n : Int) : Prop := -9223372036854775808 ≤ n ∧ n ≤ 9223372036854775807
theorem getI_mem {l : List Int} {k : Nat} (h : k < l.length) : l.getD k 0 ∈ l := by
  rw [List.getD_eq_getElem?_getD, List.getElem?_eq_getElem h]
  exact List.getElem_mem h
theorem takeI_succ (l : List Int) (k : Nat) (h : k < l.length) : (l.take (k + 1)).flatMap encI = (l.take k).flatMap encI ++ encI (l.getD k 0) := by
  rw [List.take_succ_eq_append_getElem h, List.flatMap_append, List.getD_eq_getElem?_getD, List.getElem?_eq_getElem h]
  simp
set_option maxHeartbeats 2000000 in
theorem c9 (n : Nat) (w : World) (hn : n < 18446744073709551616) : Calls Try.prog 9 #[.int .u64 (n : Int)] w fun e w' => e = .returned (.string (mkS (encU n))) ∧ Below w.heap.size w w' := by
  have C := Lib.hid (c32 (.slice none 0 0) [] n w.heap.size w (World.ownsRow_nil _ _ _ _) (Nat.le_refl _) hn (by simp))
  go_enter Try.func9, Try.ntmps9
  go_wp2_with (go_at_call 32; fail)
  (with_reducible refine C.out.mono ?_)
  rintro e w1 ⟨v', rfl, hb, ho⟩
  have hconv := run_string_own ho
  rw [List.nil_append] at hconv
  have HB := Lib.hid hb
  clear ho hb C
  go_wp2
  go_ret
  exact ⟨rfl, HB.out⟩
set_option maxHeartbeats 2000000 in
theorem c11 (n : Int) (w : World) (hn : i64 n) : Calls Try.prog 11 #[.int .i64 n] w fun e w' => e = .returned (.string (mkS (encI n))) ∧ Below w.heap.size w w' := by
  have C := Lib.hid (c33 (.slice none 0 0) [] n w.heap.size w (World.ownsRow_nil _ _ _ _) (Nat.le_refl _) hn (by simp))
  clear hn
  go_enter Try.func11, Try.ntmps11
  go_wp2_with (go_at_call 33; fail)
  (with_reducible refine C.out.mono ?_)
  rintro e w1 ⟨v', rfl, hb, ho⟩
  have hconv := run_string_own ho
  rw [List.nil_append] at hconv
  have HB := Lib.hid hb
  clear ho hb C
  go_wp2
  go_ret
  exact ⟨rfl, HB.out⟩
set_option maxHeartbeats 2000000 in
theorem c13 (s : List UInt8) (w : World) (hs : s.length ≤ 9000000000000000000) : Calls Try.prog 13 #[.string (mkS s)] w fun e w' => e = .returned (.string (mkS (encT s))) ∧ Below w.heap.size w w' := by
  obtain ⟨n, hn⟩ : ∃ n, s.length = n := ⟨_, rfl⟩
  have hz : (mkS s).size = n := by rw [← hn]; rfl
  have C := Lib.hid (c9 n w (by omega))
  have hle := encU_len n
  have HT : Hid (mkS (encU n) ++ mkS s = mkS (encT s)) := Lib.hid (by rw [← hn]; unfold encT; exact mkS_append _ _)
  have hz1 : (mkS (encU n)).size = (encU n).length := rfl
  have hsum : ¬ 9223372036854775807 < (encU n).length + n := by omega
  go_enter Try.func13, Try.ntmps13
  go_wp2_with (go_at_call 9; fail)
  (with_reducible refine C.out.mono ?_)
  rintro e w1 ⟨rfl, hb⟩
  have HB := Lib.hid hb
  clear hb C hn
  go_wp2
  go_ret
  exact ⟨by rw [HT.out]; rfl, HB.out⟩
set_option maxHeartbeats 2000000 in
theorem c15 (v : Value) (l : List Int) (w : World) (h : argI w w.heap.size v l) (hl : l.length ≤ 17592186044416) (hx : ∀ x ∈ l, i64 x) : Calls Try.prog 15 #[v] w fun e w' => e = .returned (.string (mkS (encL l))) ∧ Below w.heap.size w w' := by
  obtain ⟨ao, cap, rfl, h⟩ := h
  obtain ⟨n, hn⟩ : ∃ n, l.length = n := ⟨_, rfl⟩
  rw [hn] at h hl ⊢
  have HN := Lib.hid hn
  have H := Lib.hid h
  have HX := Lib.hid hx
  have C := Lib.hid (c32 (.slice none 0 0) [] n w.heap.size w (World.ownsRow_nil _ _ _ _) (Nat.le_refl _) (by omega) (by simp))
  clear hn h hx
  go_enter Try.func15, Try.ntmps15
  go_wp2_with (go_at_call 32; fail)
  (with_reducible refine C.out.mono ?_)
  rintro e w1 ⟨v', rfl, hb1, ho1⟩
  rw [List.nil_append] at ho1
  clear C
  go_wp2
  go_loopw [3, 12] (fun b i W => ∃ k : Nat, k ≤ n ∧ i = .int .i64 (k : Int) ∧ W.ownsRow w.heap.size 5 1 b (encU n ++ (l.take k).flatMap encI).length (bv (encU n ++ (l.take k).flatMap encI)) ∧ Below w.heap.size w W) (fun _ i _ => (n - (intOf i).toNat))
  case atStart => exact ⟨0, by omega, rfl, by simpa using ho1, hb1⟩
  case round =>
    clear ho1 hb1
    obtain ⟨k, hk, rfl, ho, hnx⟩ := hrel
    by_cases hlt : k < n
    · obtain ⟨g, o, rfl, hg, hc⟩ := H.out (by omega)
      have f0 := (hnx.cell (p := ⟨g, o + k, none⟩) hg).trans (hc k hlt)
      have hxk := HX.out _ (getI_mem (l := l) (k := k) (by rw [HN.out]; exact hlt))
      have hts := takeI_succ l k (by rw [HN.out]; exact hlt)
      have hfl := flat_len (l.take k)
      have htl := List.length_take_le k l
      have hul := (encU_len n).2
      have hbl : (encU n ++ (l.take k).flatMap encI).length ≤ 200000000000000 := by rw [List.length_append]; omega
      generalize l.getD k 0 = x at *
      have C := Lib.hid (c33 u3 _ x w.heap.size wr ho hnx.size hxk hbl)
      have HT : Hid (encU n ++ (l.take (k + 1)).flatMap encI = encU n ++ (l.take k).flatMap encI ++ encI x) := Lib.hid (by rw [hts, List.append_assoc])
      have kk : IntKind.i64.wrap ((k : Int) + 1) = (k : Int) + 1 := IntWalk.i64_in _ (by omega)
      have hz := hnx.size
      clear hc hts hfl htl hul hbl ho hxk
      go_wp2_with (go_at_call 33; fail)
      (with_reducible refine C.out.mono ?_)
      rintro e w2 ⟨v2, rfl, hb2, ho2⟩
      rw [← HT.out] at ho2
      have hnx2 := hnx.trans hb2
      clear hb2 C hnx f0
      go_wp2
      go_roundw
      case rel => exact ⟨k + 1, by omega, by simp, ho2, hnx2⟩
      case measure => simp [intOf]; omega
    · obtain rfl : n = k := by omega
      have hend : l.take n = l := by rw [← HN.out, List.take_length]
      rw [hend] at ho
      have hconv := run_string_own ho
      rw [show encU n ++ l.flatMap encI = encL l by unfold encL; rw [HN.out]] at hconv
      have HB := Lib.hid hnx
      clear ho hend hnx
      go_wp2
      go_ret
      exact ⟨rfl, HB.out⟩

end Go.Proofs.Ytecpdngaagmgfaa
