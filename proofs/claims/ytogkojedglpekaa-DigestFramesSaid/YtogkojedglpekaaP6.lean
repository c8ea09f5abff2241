import Derived.Test.YtogkojedglpekaaProg
import Derived.WalkKit
import Derived.WalkLawsBesides
import Derived.Outline
import Derived.Lib.Walk
import Derived.Deep.QuietTactic
import Derived.BigQuiet
import Derived.RowKit3
import Derived.Deep.LoopGhost
import Derived.Great.Walk
import Derived.Great.BuildSlice
import Derived.Laws.Rows
import Derived.Laws.Tables
import Derived.Laws.CopyOwn
import Derived.Lib.Hide
import Derived.Handy
import Derived.Deep.Onto
import Derived.Laws.BitsAllLaws
import Derived.IntWalk
import Derived.WalkSpells
import Derived.Laws.IdiomStrings
import Derived.Laws.BytesString
import Derived.Deep.RegionHeld3
import Derived.Test.YtogkojedglpekaaA1
import Derived.Test.YtogkojedglpekaaA2
import Derived.Test.YtogkojedglpekaaA3
import Derived.Test.YtogkojedglpekaaK1
import Derived.Test.YtogkojedglpekaaK2
import Derived.Test.YtogkojedglpekaaK3
import Derived.Test.YtogkojedglpekaaB2
import Derived.Test.YtogkojedglpekaaB3
import Derived.Test.YtogkojedglpekaaC1
import Derived.Test.YtogkojedglpekaaC2
import Derived.Test.YtogkojedglpekaaC3
import Derived.Test.YtogkojedglpekaaC4
import Derived.Test.YtogkojedglpekaaC5
import Derived.Test.YtogkojedglpekaaC6
import Derived.Test.YtogkojedglpekaaE1
import Derived.Test.YtogkojedglpekaaP3
import Derived.Test.YtogkojedglpekaaP4
import Derived.Test.YtogkojedglpekaaP5
import Derived.Test.YtogkojedglpekaaR1
namespace Go.Proofs.Ytogkojedglpekaa
open Go.RowKit
set_option maxHeartbeats 400000
set_option linter.unusedVariables false

theorem mkS_cut (l : List UInt8) (q n : Nat) (h : n = q + 4) : (mkS l).extract q n = mkS ((l.drop q).take 4) := by
  subst h
  apply ByteArray.ext
  simp [mkS, ByteArray.data_extract, List.extract_toArray, List.extract_eq_take_drop]
theorem mkS_ne {a b : List UInt8} (h : a ≠ b) : mkS a ≠ mkS b := by
  intro he
  apply h
  have := congrArg ByteArray.data he
  simpa [mkS] using this
theorem bel_gr {a W W' : World} {p : Nat} (h : Below a.heap.size a W) (hg : W.grownBy W' (pblk (.pointer (some ⟨p, 0, none⟩)))) (hp : a.heap.size ≤ p) : Below a.heap.size a W' :=
  h.grown hg h.size (by intro k e; simp [pblk] at e; omega)
theorem bel_n {a W W' : World} (h : Below a.heap.size a W) (hg : W.grownBy W' none) : Below a.heap.size a W' := h.grown hg h.size (by intro k e; cases e)
theorem bel_dr {a W : World} (h : Below a.heap.size a W) (q : Nat) : Below a.heap.size a (W.drewN q) := ⟨h.os, h.tape, h.output, h.size, h.block⟩
set_option maxHeartbeats 4000000 in
theorem c19 (l : List UInt8) (w : World) (hl : l.length ≤ 9000000000000000000) : Calls Try.prog 19 #[.string (mkS l)] w fun e w' => e = .returned (.tuple #[.string (mkS (openF l).1), .int .i64 ((openF l).2.1 : Nat), .int .i64 (openF l).2.2]) ∧ Below w.heap.size w w' := by
  have hz : (mkS l).size = l.length := rfl
  have C1 := Lib.hid (c26 l w hl)
  have C2 := Lib.hid (fun v W h => e27 v (l, 0) 1048576 W (by unfold i64; omega) h)
  have HP := Lib.hid (Nat.le_refl w.heap.size)
  have HB0 := Lib.hid (Below.refl w.heap.size w)
  rcases open_ways l with ⟨e', h0, h1, h2⟩ | ⟨q, X, h1, hq, h2⟩
  · rw [h2]
    obtain ⟨x, y, hR⟩ : ∃ x y, rT 1048576 (l, 0) = (x, (y, e')) := ⟨_, (rT 1048576 (l, 0)).2.1, by rw [← h1]⟩
    rw [hR] at C2
    have C3 := Lib.hid (fun v W h => e28 v (y, e') W h)
    have h0i : (e' == 0) = false := by simpa using h0
    simp only at C2 C3
    clear h1 h2 hR
    go_enter Try.func19, Try.ntmps19
    go_wp2_with (go_at_call 26; fail)
    (with_reducible refine C1.out.mono ?_)
    rintro e1 w1 ⟨_, rfl, rfl, hr1, hg1⟩
    have HB1 := Lib.hid (bel_n HB0.out hg1)
    have HR1 := Lib.hid hr1
    clear hr1 hg1
    go_wp2_with (go_at_call 27; fail)
    (with_reducible refine (C2.out _ _ HR1.out).mono ?_)
    rintro e1 w2 ⟨rfl, hr2, hg2⟩
    have HB2 := Lib.hid (bel_gr HB1.out hg2 HP.out)
    have HR2 := Lib.hid hr2
    clear hr2 hg2
    go_wp2_with (go_at_call 28; fail)
    (with_reducible refine (C3.out _ _ HR2.out).mono ?_)
    rintro e1 w3 ⟨rfl, rfl⟩
    go_wp2
    go_ret3
    exact ⟨ret3 rfl rfl rfl, HB2.out⟩
  · rw [h1] at C2
    have C3 := Lib.hid (fun v W h => e28 v (l.drop q, 0) W h)
    have C4 := Lib.hid (fun v W h => e29 v (l.drop q, 0) W h)
    rw [show leftR (l.drop q, 0) = l.length - q by unfold leftR; rw [if_pos rfl, List.length_drop]] at C4
    obtain ⟨k, hk⟩ : ∃ k, l.length - q = k := ⟨_, rfl⟩
    rw [hk] at C4
    simp only at C2 C3
    by_cases h4 : l.length < q + 4
    · rw [h2, if_pos h4]
      have h4i : (k : Int) < 4 := by omega
      clear h1 h2
      go_enter Try.func19, Try.ntmps19
      go_wp2_with (go_at_call 26; fail)
      (with_reducible refine C1.out.mono ?_)
      rintro e1 w1 ⟨_, rfl, rfl, hr1, hg1⟩
      have HB1 := Lib.hid (bel_n HB0.out hg1)
      have HR1 := Lib.hid hr1
      clear hr1 hg1
      go_wp2_with (go_at_call 27; fail)
      (with_reducible refine (C2.out _ _ HR1.out).mono ?_)
      rintro e1 w2 ⟨rfl, hr2, hg2⟩
      have HB2 := Lib.hid (bel_gr HB1.out hg2 HP.out)
      have HR2 := Lib.hid hr2
      clear hr2 hg2
      go_wp2_with (go_at_call 28; fail)
      (with_reducible refine (C3.out _ _ HR2.out).mono ?_)
      rintro e1 w3 ⟨rfl, rfl⟩
      go_wp2_with (go_at_call 29; fail)
      (with_reducible refine (C4.out _ _ HR2.out).mono ?_)
      rintro e1 w3 ⟨rfl, rfl⟩
      go_wp2
      go_ret3
      exact ⟨ret3 rfl rfl rfl, HB2.out⟩
    · rw [h2, if_neg h4]
      have h4i := decide_eq_false (p := (k : Int) < 4) (by omega)
      have h4n := decide_eq_false (p := k < 4) (by omega)
      have hqI : IntKind.i64.wrap ((l.length : Int) - (k : Int)) = (q : Int) := by rw [IntWalk.i64_in _ (by omega)]; omega
      obtain ⟨n4, hn4⟩ : ∃ n4, n4 = q + 4 := ⟨_, rfl⟩
      have hn4I : IntKind.i64.wrap ((q : Int) + 4) = (n4 : Int) := by rw [IntWalk.i64_in _ (by omega)]; omega
      have hx1 := mkS_cut l q n4 hn4
      have hx2 := mkS_take l q hq
      have b1 : (q : Int) ≤ (n4 : Int) := by omega
      have b2 : (n4 : Int) ≤ (l.length : Int) := by omega
      have b3 : (q : Int) ≤ (l.length : Int) := by omega
      have b1n : q ≤ n4 := by omega
      have b2n : n4 ≤ l.length := by omega
      have C5 := Lib.hid (fun W => c23 (l.take q) W (by rw [List.length_take]; omega))
      have HW : Hid (((if (l.drop q).take 4 ≠ four (crc (l.take q)) then ([], 0, 7) else (X, q + 4, 0)) : List UInt8 × Nat × Int) = if (l.drop q).take 4 ≠ four (crc (l.take q)) then ([], 0, 7) else (X, n4, 0)) := Lib.hid (by rw [hn4])
      rw [HW.out]
      generalize (l.drop q).take 4 = X4 at *
      generalize four (crc (l.take q)) = F4 at *
      generalize l.take q = Pq at *
      clear h1 h2 HW hn4 h4
      by_cases hx : X4 = F4
      · subst hx
        rw [if_neg (by simp)]
        go_enter Try.func19, Try.ntmps19
        go_wp2_with (go_at_call 26; fail)
        (with_reducible refine C1.out.mono ?_)
        rintro e1 w1 ⟨_, rfl, rfl, hr1, hg1⟩
        have HB1 := Lib.hid (bel_n HB0.out hg1)
        have HR1 := Lib.hid hr1
        clear hr1 hg1
        go_wp2_with (go_at_call 27; fail)
        (with_reducible refine (C2.out _ _ HR1.out).mono ?_)
        rintro e1 w2 ⟨rfl, hr2, hg2⟩
        have HB2 := Lib.hid (bel_gr HB1.out hg2 HP.out)
        have HR2 := Lib.hid hr2
        clear hr2 hg2
        go_wp2_with (go_at_call 28; fail)
        (with_reducible refine (C3.out _ _ HR2.out).mono ?_)
        rintro e1 w3 ⟨rfl, rfl⟩
        go_wp2_with (go_at_call 29; fail)
        (with_reducible refine (C4.out _ _ HR2.out).mono ?_)
        rintro e1 w3 ⟨rfl, rfl⟩
        go_wp2_with (go_at_call 29; fail)
        (with_reducible refine (C4.out _ _ HR2.out).mono ?_)
        rintro e1 w3 ⟨rfl, rfl⟩
        have hB2 : Below w.heap.size w w2.drew := bel_dr HB2.out 1
        go_wp2
        go_region_held3 (fun W => Below w.heap.size w W)
          (first | exact hB2 | assumption | exact bel_trans (by assumption) hg)
          (first | (go_at_call 23; (with_reducible refine (C5.out _).mono ?_); rintro e w1 ⟨rfl, hg⟩))
        go_wp2
        go_ret3
        exact ⟨ret3 rfl rfl rfl, by assumption⟩
      · rw [if_pos hx]
        have hxb : (X4 == F4) = false := by rw [beq_eq_false_iff_ne]; exact hx
        have hne := mkS_ne hx
        have hned := decide_eq_false hne
        go_enter Try.func19, Try.ntmps19
        go_wp2_with (go_at_call 26; fail)
        (with_reducible refine C1.out.mono ?_)
        rintro e1 w1 ⟨_, rfl, rfl, hr1, hg1⟩
        have HB1 := Lib.hid (bel_n HB0.out hg1)
        have HR1 := Lib.hid hr1
        clear hr1 hg1
        go_wp2_with (go_at_call 27; fail)
        (with_reducible refine (C2.out _ _ HR1.out).mono ?_)
        rintro e1 w2 ⟨rfl, hr2, hg2⟩
        have HB2 := Lib.hid (bel_gr HB1.out hg2 HP.out)
        have HR2 := Lib.hid hr2
        clear hr2 hg2
        go_wp2_with (go_at_call 28; fail)
        (with_reducible refine (C3.out _ _ HR2.out).mono ?_)
        rintro e1 w3 ⟨rfl, rfl⟩
        go_wp2_with (go_at_call 29; fail)
        (with_reducible refine (C4.out _ _ HR2.out).mono ?_)
        rintro e1 w3 ⟨rfl, rfl⟩
        go_wp2_with (go_at_call 29; fail)
        (with_reducible refine (C4.out _ _ HR2.out).mono ?_)
        rintro e1 w3 ⟨rfl, rfl⟩
        have hB2 : Below w.heap.size w w2.drew := bel_dr HB2.out 1
        go_wp2
        go_region_held3 (fun W => Below w.heap.size w W)
          (first | exact hB2 | assumption | exact bel_trans (by assumption) hg)
          (first | (go_at_call 23; (with_reducible refine (C5.out _).mono ?_); rintro e w1 ⟨rfl, hg⟩))
        go_wp2
        go_ret3
        exact ⟨ret3 rfl rfl rfl, by assumption⟩

end Go.Proofs.Ytogkojedglpekaa
