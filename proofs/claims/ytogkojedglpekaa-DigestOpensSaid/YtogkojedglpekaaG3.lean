import Derived.Test.YtogkojedglpekaaProg
import Derived.WalkKit
import Derived.WalkLawsBesides
import Derived.Outline
import Derived.Lib.Walk
import Derived.Deep.QuietTactic
import Derived.BigQuiet
import Derived.RowKit3
import Derived.Deep.LoopGhost
import Derived.Great.Walk
import Derived.Great.BuildSlice
import Derived.Laws.Rows
import Derived.Laws.Tables
import Derived.Laws.CopyOwn
import Derived.Lib.Hide
import Derived.Handy
import Derived.Deep.Onto
import Derived.Laws.BitsAllLaws
import Derived.IntWalk
import Derived.WalkSpells
import Derived.Laws.IdiomStrings
import Derived.Laws.BytesString
import Derived.Deep.RegionHeld3
import Derived.Test.YtogkojedglpekaaA1
import Derived.Test.YtogkojedglpekaaA2
import Derived.Test.YtogkojedglpekaaA3
import Derived.Test.YtogkojedglpekaaK1
import Derived.Test.YtogkojedglpekaaK2
import Derived.Test.YtogkojedglpekaaK3
import Derived.Test.YtogkojedglpekaaB2
import Derived.Test.YtogkojedglpekaaB3
import Derived.Test.YtogkojedglpekaaC1
import Derived.Test.YtogkojedglpekaaC3
import Derived.Test.YtogkojedglpekaaC4
import Derived.Test.YtogkojedglpekaaP3
import Derived.Test.YtogkojedglpekaaP4
import Derived.Test.YtogkojedglpekaaP5
import Derived.Test.YtogkojedglpekaaP6
import Derived.Test.YtogkojedglpekaaR1
import Derived.Test.YtogkojedglpekaaG1
import Derived.Test.YtogkojedglpekaaG2
namespace Go.Proofs.Ytogkojedglpekaa
open Go.RowKit
set_option maxHeartbeats 400000
set_option linter.unusedVariables false

theorem cutN (l : List UInt8) (a q n : Nat) (h : q = a + n) : (mkS l).extract a q = mkS ((l.drop a).take n) := by
  subst h
  apply ByteArray.ext
  simp [mkS, ByteArray.data_extract, List.extract_toArray, List.extract_eq_take_drop]
set_option maxHeartbeats 4000000 in
theorem g20 (l : List UInt8) (w : World) (hl : l.length ≤ 9000000000000000000) : Calls Try.prog 20 #[.string (mkS l)] w fun e w' => e = .returned (.tuple #[.string (mkS (openF l).1), .int .i64 ((openF l).2.1 : Nat), .int .i64 (openF l).2.2]) ∧ Below w.heap.size w w' := by
  have hz : (mkS l).size = l.length := rfl
  have C1 := Lib.hid (g30 l w hl)
  have HB0 := Lib.hid (Below.refl w.heap.size w)
  have hat := (decU_lt l).2
  have hO := Lib.hid (show openF l = _ by unfold openF; rfl)
  obtain ⟨n, hn⟩ : ∃ n, (decU l).1 = n := ⟨_, rfl⟩
  obtain ⟨a, ha⟩ : ∃ a, (decU l).2.1 = a := ⟨_, rfl⟩
  obtain ⟨e', he⟩ : ∃ e', (decU l).2.2 = e' := ⟨_, rfl⟩
  have hO := hO.out
  rw [hn, ha, he] at hO C1
  rw [ha] at hat
  rw [hO]
  have HO := Lib.hid hO
  clear hO
  by_cases h0 : e' = 0
  · subst h0
    rw [if_neg (by simp)]
    by_cases h1 : 1048576 < n
    · rw [if_pos h1]
      have h1i : (1048576 : Int) < (n : Int) := by omega
      clear hn ha he HO
      go_enter Try.func20, Try.ntmps20
      go_wp2_with (go_at_call 30; fail)
      (with_reducible refine C1.out.mono ?_)
      rintro e1 w1 ⟨rfl, rfl⟩
      go_wp2
      go_ret3
      exact ⟨ret3 rfl rfl rfl, Below.refl _ _⟩
    · rw [if_neg h1]
      have h1i := decide_eq_false (p := (1048576 : Int) < (n : Int)) (by omega)
      have h1n := decide_eq_false (p := 1048576 < n) h1
      obtain ⟨q, hq⟩ : ∃ q, q = a + n := ⟨_, rfl⟩
      obtain ⟨n4, hn4⟩ : ∃ n4, n4 = q + 4 := ⟨_, rfl⟩
      have k0 : IntKind.i64.wrap (n : Int) = (n : Int) := IntWalk.i64_in _ (by omega)
      have k1 : IntKind.i64.wrap ((a : Int) + (n : Int)) = (q : Int) := by rw [IntWalk.i64_in _ (by omega)]; omega
      have k2 : IntKind.i64.wrap ((q : Int) + 4) = (n4 : Int) := by rw [IntWalk.i64_in _ (by omega)]; omega
      by_cases h2 : l.length < a + n + 4
      · rw [if_pos h2]
        have h2i : (l.length : Int) < (n4 : Int) := by omega
        have h2n : l.length < n4 := by omega
        clear hn ha he HO hn4 hq
        go_enter Try.func20, Try.ntmps20
        go_wp2_with (go_at_call 30; fail)
        (with_reducible refine C1.out.mono ?_)
        rintro e1 w1 ⟨rfl, rfl⟩
        go_wp2
        go_ret3
        exact ⟨ret3 rfl rfl rfl, Below.refl _ _⟩
      · rw [if_neg h2]
        have h2i := decide_eq_false (p := (l.length : Int) < (n4 : Int)) (by omega)
        have h2n := decide_eq_false (p := l.length < n4) (by omega)
        have hx1 := mkS_cut l q n4 hn4
        have hx2 := mkS_take l q (by omega)
        have hx3 := cutN l a q n hq
        have b1 : (q : Int) ≤ (n4 : Int) := by omega
        have b2 : (n4 : Int) ≤ (l.length : Int) := by omega
        have b3 : (q : Int) ≤ (l.length : Int) := by omega
        have b4 : (a : Int) ≤ (q : Int) := by omega
        have b1n : q ≤ n4 := by omega
        have b2n : n4 ≤ l.length := by omega
        have b3n : q ≤ l.length := by omega
        have b4n : a ≤ q := by omega
        have HQ := Lib.hid hq
        have HN := Lib.hid hn4
        rw [← hq]
        rw [← hn4]
        have C5 := Lib.hid (fun W => g12 (l.take q) W (by rw [List.length_take]; omega))
        have hcl := crc_lt (l.take q)
        generalize (l.drop q).take 4 = X4 at *
        generalize (l.drop a).take n = X at *
        generalize l.take q = Pq at *
        generalize crc Pq = c at *
        have C6 := Lib.hid (fun W => g25 c W hcl)
        generalize four c = F4 at *
        clear hn ha he HO hn4 hq hcl h1 h2
        by_cases hx : X4 = F4
        · subst hx
          rw [if_neg (by simp)]
          go_enter Try.func20, Try.ntmps20
          go_wp2_with (go_at_call 30; fail)
          (with_reducible refine C1.out.mono ?_)
          rintro e1 w1 ⟨rfl, rfl⟩
          go_wp2
          have hB2 : Below w.heap.size w w.drew := bel_dr HB0.out 1
          go_region_held3 (fun W => Below w.heap.size w W)
            (first | exact hB2 | assumption | exact bel_trans (by assumption) hg)
            (first | (go_at_call 12; (with_reducible refine (C5.out _).mono ?_); rintro e w1 ⟨rfl, rfl⟩) | (go_at_call 25; (with_reducible refine (C6.out _).mono ?_); rintro e w1 ⟨rfl, hg⟩))
          go_wp2
          go_ret3
          exact ⟨ret3 rfl rfl rfl, by assumption⟩
        · rw [if_pos hx]
          have hxb : (X4 == F4) = false := by rw [beq_eq_false_iff_ne]; exact hx
          have hne := mkS_ne hx
          have hned := decide_eq_false hne
          go_enter Try.func20, Try.ntmps20
          go_wp2_with (go_at_call 30; fail)
          (with_reducible refine C1.out.mono ?_)
          rintro e1 w1 ⟨rfl, rfl⟩
          go_wp2
          have hB2 : Below w.heap.size w w.drew := bel_dr HB0.out 1
          go_region_held3 (fun W => Below w.heap.size w W)
            (first | exact hB2 | assumption | exact bel_trans (by assumption) hg)
            (first | (go_at_call 12; (with_reducible refine (C5.out _).mono ?_); rintro e w1 ⟨rfl, rfl⟩) | (go_at_call 25; (with_reducible refine (C6.out _).mono ?_); rintro e w1 ⟨rfl, hg⟩))
          go_wp2
          go_ret3
          exact ⟨ret3 rfl rfl rfl, by assumption⟩
  · rw [if_pos h0]
    have h0i : (e' == 0) = false := by simpa using h0
    clear hn ha he HO
    go_enter Try.func20, Try.ntmps20
    go_wp2_with (go_at_call 30; fail)
    (with_reducible refine C1.out.mono ?_)
    rintro e1 w1 ⟨rfl, rfl⟩
    go_wp2
    go_ret3
    exact ⟨ret3 rfl rfl rfl, Below.refl _ _⟩

end Go.Proofs.Ytogkojedglpekaa
