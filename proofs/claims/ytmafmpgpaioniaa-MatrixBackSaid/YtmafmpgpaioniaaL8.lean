import Derived.Test.YtmafmpgpaioniaaProg
import Derived.WalkKit
import Derived.WalkLawsBesides
import Derived.Outline
import Derived.Lib.Walk
import Derived.Deep.QuietTactic
import Derived.BigQuiet
import Derived.RowKit3
import Derived.Deep.LoopGhost
import Derived.Laws.Rows
import Derived.Laws.Tables
import Derived.Laws.CopyOwn
import Derived.Lib.Hide
import Derived.Handy
import Derived.Deep.Onto
import Derived.IntWalk
import Derived.Deep.WholeRow
import Derived.Laws.ResultCell
import Derived.Test.YtmafmpgpaioniaaAW
import Derived.Test.YtmafmpgpaioniaaPB
namespace Go.Proofs.Ytmafmpgpaioniaa
open Go.RowKit
set_option maxHeartbeats 400000
set_option linter.unusedVariables false

theorem inv_zero {m : Nat → Int} (h : invE m ≠ 0) : invM m = fun _ => 0 := by
  cases h1 : okM m
  · exact (inv_bad h1).1
  · by_cases h2 : detF m = 0
    · exact (inv_flat h1 h2).1
    · cases h3 : okM (invF m)
      · exact (inv_wide h1 h2 h3).1
      · exact absurd (inv_ok h1 h2 h3).2 h
theorem inv_good {m : Nat → Int} (h : invE m = 0) : okM m = true ∧ detF m ≠ 0 ∧ okM (invF m) = true ∧ invM m = invF m := by
  cases h1 : okM m
  · rw [(inv_bad h1).2] at h; cases h
  · by_cases h2 : detF m = 0
    · rw [(inv_flat h1 h2).2] at h; cases h
    · cases h3 : okM (invF m)
      · rw [(inv_wide h1 h2 h3).2] at h; cases h
      · exact ⟨rfl, h2, rfl, (inv_ok h1 h2 h3).1⟩
/-- the matrix and its inverse in their blocks. -/
def S8 (w : World) (g0 g3 : Nat) (m N : Nat → Int) (W : World) : Prop := Below w.heap.size w W ∧ Has W g0 9 22 m ∧ Has W g3 9 22 N
theorem S8.keep {w W W' : World} {g0 g3 : Nat} {m N : Nat → Int} (h : S8 w g0 g3 m N W) (hb : Below W.heap.size W W') : S8 w g0 g3 m N W' := ⟨bel_trans h.1 hb, h.2.1.keep hb, h.2.2.keep hb⟩

set_option maxHeartbeats 8000000 in
set_option maxRecDepth 100000 in
theorem l8 (m : Nat → Int) (w : World) : Calls Try.prog 8 #[.agg (arr 9 m)] w fun e w' => e = .returned (.bool true) ∧ Below w.heap.size w w' := by
  have K10 := Lib.hid (fun W => l10 W)
  by_cases hE : invE m = 0
  · obtain ⟨o1, o2, o3, o4⟩ := inv_good hE
    have HBF := Lib.hid (fun i j hi hj => @back_fact m o1 o2 o3 i j hi hj)
    obtain ⟨Nn, hN⟩ : ∃ f, invF m = f := ⟨_, rfl⟩
    have K19 := Lib.hid (show ∀ W : World, Calls Try.prog 19 #[.agg #[.int .i64 (m 0), .int .i64 (m 1), .int .i64 (m 2), .int .i64 (m 3), .int .i64 (m 4), .int .i64 (m 5), .int .i64 (m 6), .int .i64 (m 7), .int .i64 (m 8)]] W fun e w' => e = .returned (.tuple #[.agg #[.int .i64 (Nn 0), .int .i64 (Nn 1), .int .i64 (Nn 2), .int .i64 (Nn 3), .int .i64 (Nn 4), .int .i64 (Nn 5), .int .i64 (Nn 6), .int .i64 (Nn 7), .int .i64 (Nn 8)], .int .i64 0]) ∧ Below W.heap.size W w' from fun W => by
      have h := c19 m W
      rw [o4, hE, hN] at h
      exact h)
    rw [hN] at o3 HBF
    have K11 := Lib.hid (show ∀ W : World, Calls Try.prog 11 #[.agg #[.int .i64 (m 0), .int .i64 (m 1), .int .i64 (m 2), .int .i64 (m 3), .int .i64 (m 4), .int .i64 (m 5), .int .i64 (m 6), .int .i64 (m 7), .int .i64 (m 8)]] W fun e w' => e = .returned (.int .i64 0) ∧ Below W.heap.size W w' from fun W => (show ckM m = 0 from ckM_ok (okM_at o1)) ▸ c11 m W)
    have K11n := Lib.hid (show ∀ W : World, Calls Try.prog 11 #[.agg #[.int .i64 (Nn 0), .int .i64 (Nn 1), .int .i64 (Nn 2), .int .i64 (Nn 3), .int .i64 (Nn 4), .int .i64 (Nn 5), .int .i64 (Nn 6), .int .i64 (Nn 7), .int .i64 (Nn 8)]] W fun e w' => e = .returned (.int .i64 0) ∧ Below W.heap.size W w' from fun W => (show ckM Nn = 0 from ckM_ok (okM_at o3)) ▸ c11 Nn W)
    have RM := Lib.hid (okM_at o1)
    have RN := Lib.hid (okM_at o3)
    have SB := Lib.hid (fun i j hi hj k hk => @sumB_b Nn m o3 o1 i j hi hj k hk)
    have ZB := Lib.hid (fun j hj k hk => @sizB_b m o1 j hj k hk)
    clear hE o1 o2 o3 o4 hN
    have h0 := Has.new w 9 22 m
    have hB := bel_al (Below.refl w.heap.size w) (.cells (arr 9 m) 22)
    obtain ⟨g0, e0⟩ : ∃ g, g = w.heap.size := ⟨_, rfl⟩
    rw [← e0, ← arr9 m] at h0
    rw [← arr9 m] at hB
    rw [← arr9 m]
    go_enter Try.func8, Try.ntmps8
    go_wp2_with (go_at_call 19; fail)
    generalize w.alloc (.cells #[.int .i64 (m 0), .int .i64 (m 1), .int .i64 (m 2), .int .i64 (m 3), .int .i64 (m 4), .int .i64 (m 5), .int .i64 (m 6), .int .i64 (m 7), .int .i64 (m 8)] 22) = V at *
    rw [← e0]
    clear e0
    (with_reducible refine (K19.out _).mono ?_)
    rintro e1' w1 ⟨rfl, hb⟩
    have hs := Lib.hid (show S8 w g0 w1.heap.size m Nn (w1.alloc (.cells (arr 9 Nn) 22)) from ⟨bel_al (bel_trans hB hb) _, (h0.keep hb).keep ((Below.refl _ _).alloc (Nat.le_refl _) _), Has.new _ _ _ _⟩)
    clear hb K19 h0 hB
    go_wp2_with (go_at_call 10; fail)
    have hVV : w1.alloc (.cells #[.int .i64 (Nn 0), .int .i64 (Nn 1), .int .i64 (Nn 2), .int .i64 (Nn 3), .int .i64 (Nn 4), .int .i64 (Nn 5), .int .i64 (Nn 6), .int .i64 (Nn 7), .int .i64 (Nn 8)] 22) = w1.alloc (.cells (arr 9 Nn) 22) := rfl
    rw [hVV]
    clear hVV
    generalize w1.alloc (.cells (arr 9 Nn) 22) = V1 at *
    generalize w1.heap.size = g3 at *
    (with_reducible refine (K10.out _).mono ?_)
    rintro e2' w2 ⟨rfl, hb⟩
    replace hs := Lib.hid (hs.out.keep hb)
    clear hb K10
    have a0 : w2.cell? ⟨g0, 0, none⟩ = some (.int .i64 (m 0)) := hs.out.2.1.cell (by omega)
    have a1 : w2.cell? ⟨g0, 1, none⟩ = some (.int .i64 (m 1)) := hs.out.2.1.cell (by omega)
    have a2 : w2.cell? ⟨g0, 2, none⟩ = some (.int .i64 (m 2)) := hs.out.2.1.cell (by omega)
    have a3 : w2.cell? ⟨g0, 3, none⟩ = some (.int .i64 (m 3)) := hs.out.2.1.cell (by omega)
    have a4 : w2.cell? ⟨g0, 4, none⟩ = some (.int .i64 (m 4)) := hs.out.2.1.cell (by omega)
    have a5 : w2.cell? ⟨g0, 5, none⟩ = some (.int .i64 (m 5)) := hs.out.2.1.cell (by omega)
    have a6 : w2.cell? ⟨g0, 6, none⟩ = some (.int .i64 (m 6)) := hs.out.2.1.cell (by omega)
    have a7 : w2.cell? ⟨g0, 7, none⟩ = some (.int .i64 (m 7)) := hs.out.2.1.cell (by omega)
    have a8 : w2.cell? ⟨g0, 8, none⟩ = some (.int .i64 (m 8)) := hs.out.2.1.cell (by omega)
    go_wp2_with (go_at_call 11; fail)
    (with_reducible refine (K11.out _).mono ?_)
    rintro e3' w3 ⟨rfl, hb⟩
    replace hs := Lib.hid (hs.out.keep hb)
    clear hb K11 a0 a1 a2 a3 a4 a5 a6 a7 a8
    have a0 : w3.cell? ⟨g3, 0, none⟩ = some (.int .i64 (Nn 0)) := hs.out.2.2.cell (by omega)
    have a1 : w3.cell? ⟨g3, 1, none⟩ = some (.int .i64 (Nn 1)) := hs.out.2.2.cell (by omega)
    have a2 : w3.cell? ⟨g3, 2, none⟩ = some (.int .i64 (Nn 2)) := hs.out.2.2.cell (by omega)
    have a3 : w3.cell? ⟨g3, 3, none⟩ = some (.int .i64 (Nn 3)) := hs.out.2.2.cell (by omega)
    have a4 : w3.cell? ⟨g3, 4, none⟩ = some (.int .i64 (Nn 4)) := hs.out.2.2.cell (by omega)
    have a5 : w3.cell? ⟨g3, 5, none⟩ = some (.int .i64 (Nn 5)) := hs.out.2.2.cell (by omega)
    have a6 : w3.cell? ⟨g3, 6, none⟩ = some (.int .i64 (Nn 6)) := hs.out.2.2.cell (by omega)
    have a7 : w3.cell? ⟨g3, 7, none⟩ = some (.int .i64 (Nn 7)) := hs.out.2.2.cell (by omega)
    have a8 : w3.cell? ⟨g3, 8, none⟩ = some (.int .i64 (Nn 8)) := hs.out.2.2.cell (by omega)
    go_wp2_with (go_at_call 11; fail)
    (with_reducible refine (K11n.out _).mono ?_)
    rintro e4' w4 ⟨rfl, hb⟩
    have HS := Lib.hid (hs.out.keep hb)
    clear hb K11n hs a0 a1 a2 a3 a4 a5 a6 a7 a8
    go_wp2
    go_loop [31] (fun ii => ∃ i : Nat, ii = .int .i64 (i : Int) ∧ i ≤ 9) (fun ii => (9 - (intOf ii).toNat))
    case atStart => exact ⟨0, rfl, by omega⟩
    case round =>
      obtain ⟨i, rfl, hi⟩ := hrel
      by_cases hlt : i < 9
      · have ki : IntKind.i64.wrap ((i : Int) + 1) = (i : Int) + 1 := IntWalk.i64_in _ (by omega)
        have i9 : (i : Int) < 9 := by omega
        have c0 := HS.out.2.1.cell hlt
        have c3 := HS.out.2.2.cell hlt
        have rm := RM.out i hlt
        have rn := RN.out i hlt
        have t1 : ¬ (m i < -1048576) := by omega
        have t2 : ¬ (1048576 < m i) := by omega
        have t3 : ¬ (Nn i < -1048576) := by omega
        have t4 : ¬ (1048576 < Nn i) := by omega
        clear rm rn
        generalize m i = x at *
        generalize Nn i = y at *
        go_wp2
        go_round
        case rel => exact ⟨i + 1, by simp, by omega⟩
        case measure => simp [intOf]; omega
      · obtain rfl : i = 9 := by omega
        clear hlt hi
        rw [show ((9 : Nat) : Int) = 9 from rfl]
        go_wp2
        go_loopw [57] (fun ii W => ∃ i : Nat, ii = .int .i64 (i : Int) ∧ i ≤ 3 ∧ Hid (S8 w g0 g3 m Nn W)) (fun ii _ => (3 - (intOf ii).toNat))
        case atStart => exact ⟨0, rfl, by omega, HS⟩
        case round =>
          obtain ⟨i, rfl, hi, hs⟩ := hrel
          clear HS
          by_cases hlt : i < 3
          · have ki : IntKind.i64.wrap ((i : Int) + 1) = (i : Int) + 1 := IntWalk.i64_in _ (by omega)
            have i3 : (i : Int) < 3 := by omega
            go_wp2
            go_loopw [60] (fun jj W => ∃ j : Nat, jj = .int .i64 (j : Int) ∧ j ≤ 3 ∧ Hid (S8 w g0 g3 m Nn W)) (fun jj _ => (3 - (intOf jj).toNat))
            case atStart => exact ⟨0, rfl, by omega, hs⟩
            case round =>
              obtain ⟨j, rfl, hj, ht⟩ := hrel
              clear hs
              by_cases hlj : j < 3
              · have kj : IntKind.i64.wrap ((j : Int) + 1) = (j : Int) + 1 := IntWalk.i64_in _ (by omega)
                have j3 : (j : Int) < 3 := by omega
                go_wp2
                go_loopw [8, 9, 63] (fun ss zz kk W => ∃ k : Nat, kk = .int .i64 (k : Int) ∧ k ≤ 3 ∧ ss = .int .i64 (sumB Nn m i j k) ∧ zz = .int .i64 (sizB m j k) ∧ Hid (S8 w g0 g3 m Nn W)) (fun _ _ kk _ => (3 - (intOf kk).toNat))
                case atStart => exact ⟨0, rfl, by omega, rfl, rfl, ht⟩
                case round =>
                  obtain ⟨k, rfl, hk, rfl, rfl, hu⟩ := hrel
                  clear ht
                  by_cases hlk : k < 3
                  · obtain ⟨p, hp⟩ : ∃ p, p = 3 * i := ⟨_, rfl⟩
                    obtain ⟨n, hn⟩ : ∃ n, n = p + k := ⟨_, rfl⟩
                    obtain ⟨r, hr⟩ : ∃ r, r = 3 * k := ⟨_, rfl⟩
                    obtain ⟨q, hq⟩ : ∃ q, q = r + j := ⟨_, rfl⟩
                    have kk : IntKind.i64.wrap ((k : Int) + 1) = (k : Int) + 1 := IntWalk.i64_in _ (by omega)
                    have f0 : IntKind.i64.wrap (3 * (i : Int)) = (p : Int) := by rw [IntWalk.i64_in _ (by omega)]; omega
                    have f1 : IntKind.i64.wrap ((p : Int) + (k : Int)) = (n : Int) := by rw [IntWalk.i64_in _ (by omega)]; omega
                    have f2 : IntKind.i64.wrap (3 * (k : Int)) = (r : Int) := by rw [IntWalk.i64_in _ (by omega)]; omega
                    have f3 : IntKind.i64.wrap ((r : Int) + (j : Int)) = (q : Int) := by rw [IntWalk.i64_in _ (by omega)]; omega
                    have n9 : (n : Int) < 9 := by omega
                    have q9 : (q : Int) < 9 := by omega
                    have k3 : (k : Int) < 3 := by omega
                    have c0 := hu.out.2.1.cell (j := q) (by omega)
                    have c3 := hu.out.2.2.cell (j := n) (by omega)
                    have sb := SB.out i j hlt hlj k hk
                    have zb := ZB.out j hlj k hk
                    have rm := RM.out q (by omega)
                    have rn := RN.out n (by omega)
                    have es : sumB Nn m i j (k + 1) = sumB Nn m i j k + Nn n * m q := by rw [sumB, hn, hp, hq, hr]
                    have ez : sizB m j (k + 1) = sizB m j k + max (m q) (-m q) := by rw [sizB, hq, hr]
                    have pb := prod_in rn (y := m q) ⟨by omega, by omega⟩
                    have HU := Lib.hid (fun a => hu.out.keep (bel_drewN a))
                    clear hp hn hr hq hu SB ZB RM RN HBF rn
                    obtain ⟨s', hs'⟩ : ∃ s', sumB Nn m i j (k + 1) = s' := ⟨_, rfl⟩
                    obtain ⟨z', hz'⟩ : ∃ z', sizB m j (k + 1) = z' := ⟨_, rfl⟩
                    have HS' := Lib.hid (And.intro hs' hz')
                    rw [hs'] at es
                    rw [hz'] at ez
                    clear hs' hz'
                    generalize sumB Nn m i j k = s at *
                    generalize sizB m j k = z at *
                    generalize m q = x at *
                    generalize Nn n = y at *
                    obtain ⟨t, ht⟩ : ∃ t, t = y * x := ⟨_, rfl⟩
                    obtain ⟨M, hM⟩ : ∃ M, max x (-x) = M := ⟨_, rfl⟩
                    have w1 : IntKind.i64.wrap (y * x) = t := by rw [ht]; exact IntWalk.i64_in _ (by omega)
                    rw [← ht] at es pb
                    rw [hM] at ez
                    have w2 : IntKind.i64.wrap (s + t) = s' := by rw [es]; exact IntWalk.i64_in _ (by omega)
                    have w3 : IntKind.i64.wrap (-x) = -x := IntWalk.i64_in _ (by omega)
                    have w4 : IntKind.i64.wrap (z + M) = z' := by rw [ez]; exact IntWalk.i64_in _ (by omega)
                    clear es ez ht pb sb zb rm
                    go_wp2
                    go_quiet (fail)
                    go_wp2
                    go_quiet (fail)
                    go_wp2
                    go_roundw
                    case rel => exact ⟨k + 1, by simp, by omega, by rw [HS'.out.1], by rw [HS'.out.2], Lib.hid (HU.out _)⟩
                    case measure => simp [intOf]; omega
                  · obtain rfl : k = 3 := by omega
                    have bf := HBF.out i j hlt hlj
                    have sb := SB.out i j hlt hlj 3 (by omega)
                    have zb := ZB.out j hlj 3 (by omega)
                    rw [show ((3 : Nat) : Int) = 3 from rfl]
                    clear hlk hk HBF SB ZB RM RN
                    generalize sumB Nn m i j 3 = s at *
                    generalize sizB m j 3 = z at *
                    by_cases hij : i = j
                    · subst hij
                      rw [if_pos rfl] at bf
                      unfold ab at bf
                      obtain ⟨u, hU⟩ : ∃ u, s - 4294967296 = u := ⟨_, rfl⟩
                      have w1 : IntKind.i64.wrap (s - 4294967296) = u := by rw [IntWalk.i64_in _ (by omega)]; exact hU
                      rw [hU] at bf
                      have w2 : IntKind.i64.wrap (-u) = -u := IntWalk.i64_in _ (by omega)
                      obtain ⟨A, hA⟩ : ∃ A, max u (-u) = A := ⟨_, rfl⟩
                      rw [hA] at bf
                      have w3 : IntKind.i64.wrap (2 * A) = 2 * A := IntWalk.i64_in _ (by omega)
                      have w4 : ¬ (z < 2 * A) := by omega
                      clear bf sb zb hU
                      go_wp2
                      go_roundw
                      case rel => exact ⟨i + 1, by simp, by omega, hu⟩
                      case measure => simp [intOf]; omega
                    · rw [if_neg hij, Int.sub_zero] at bf
                      unfold ab at bf
                      have e1 : ((i : Int) == (j : Int)) = false := by simp; omega
                      have w2 : IntKind.i64.wrap (-s) = -s := IntWalk.i64_in _ (by omega)
                      obtain ⟨A, hA⟩ : ∃ A, max s (-s) = A := ⟨_, rfl⟩
                      rw [hA] at bf
                      have w3 : IntKind.i64.wrap (2 * A) = 2 * A := IntWalk.i64_in _ (by omega)
                      have w4 : ¬ (z < 2 * A) := by omega
                      clear bf sb zb
                      go_wp2
                      go_roundw
                      case rel => exact ⟨j + 1, by simp, by omega, hu⟩
                      case measure => simp [intOf]; omega
              · obtain rfl : j = 3 := by omega
                clear hlj hj
                rw [show ((3 : Nat) : Int) = 3 from rfl]
                go_wp2
                go_roundw
                case rel => exact ⟨i + 1, by simp, by omega, ht⟩
                case measure => simp [intOf]; omega
          · obtain rfl : i = 3 := by omega
            have hB := Lib.hid hs.out.1
            clear hlt hi hs HBF RM RN SB ZB
            rw [show ((3 : Nat) : Int) = 3 from rfl]
            go_wp2
            go_ret
            exact ⟨rfl, hB.out⟩
  · obtain ⟨Nn, hN⟩ : ∃ f : Nat → Int, (fun _ => 0) = f := ⟨_, rfl⟩
    have EZ := Lib.hid (show ∀ W : World, (binOp .eql 22 (.agg #[.int .i64 0, .int .i64 0, .int .i64 0, .int .i64 0, .int .i64 0, .int .i64 0, .int .i64 0, .int .i64 0, .int .i64 0]) (.agg #[.int .i64 0, .int .i64 0, .int .i64 0, .int .i64 0, .int .i64 0, .int .i64 0, .int .i64 0, .int .i64 0, .int .i64 0])).run Try.prog W = .ok (.bool true) W from fun W => eq9 (fun _ => 0) W)
    have HC := Lib.hid (show ∀ (W : World) (g : Nat), Has W g 9 22 Nn → W.cell? ⟨g, 0, none⟩ = some (.int .i64 0) ∧ W.cell? ⟨g, 1, none⟩ = some (.int .i64 0) ∧ W.cell? ⟨g, 2, none⟩ = some (.int .i64 0) ∧ W.cell? ⟨g, 3, none⟩ = some (.int .i64 0) ∧ W.cell? ⟨g, 4, none⟩ = some (.int .i64 0) ∧ W.cell? ⟨g, 5, none⟩ = some (.int .i64 0) ∧ W.cell? ⟨g, 6, none⟩ = some (.int .i64 0) ∧ W.cell? ⟨g, 7, none⟩ = some (.int .i64 0) ∧ W.cell? ⟨g, 8, none⟩ = some (.int .i64 0) from fun W g h => by subst hN; exact h.cells9)
    have HV := Lib.hid (show #[.int .i64 0, .int .i64 0, .int .i64 0, .int .i64 0, .int .i64 0, .int .i64 0, .int .i64 0, .int .i64 0, .int .i64 0] = arr 9 Nn from by rw [← hN]; rfl)
    have K19 := Lib.hid (show ∀ W : World, Calls Try.prog 19 #[.agg #[.int .i64 (m 0), .int .i64 (m 1), .int .i64 (m 2), .int .i64 (m 3), .int .i64 (m 4), .int .i64 (m 5), .int .i64 (m 6), .int .i64 (m 7), .int .i64 (m 8)]] W fun e w' => e = .returned (.tuple #[.agg #[.int .i64 0, .int .i64 0, .int .i64 0, .int .i64 0, .int .i64 0, .int .i64 0, .int .i64 0, .int .i64 0, .int .i64 0], .int .i64 (invE m)]) ∧ Below W.heap.size W w' from fun W => by
      have h := c19 m W
      rw [inv_zero hE] at h
      exact h)
    generalize invE m = E at *
    have hE' : (E == 0) = false := by simpa using hE
    clear hE hN
    have h0 := Has.new w 9 22 m
    have hB := bel_al (Below.refl w.heap.size w) (.cells (arr 9 m) 22)
    obtain ⟨g0, e0⟩ : ∃ g, g = w.heap.size := ⟨_, rfl⟩
    rw [← e0, ← arr9 m] at h0
    rw [← arr9 m] at hB
    rw [← arr9 m]
    go_enter Try.func8, Try.ntmps8
    go_wp2_with (go_at_call 19; fail)
    generalize w.alloc (.cells #[.int .i64 (m 0), .int .i64 (m 1), .int .i64 (m 2), .int .i64 (m 3), .int .i64 (m 4), .int .i64 (m 5), .int .i64 (m 6), .int .i64 (m 7), .int .i64 (m 8)] 22) = V at *
    rw [← e0]
    clear e0
    (with_reducible refine (K19.out _).mono ?_)
    rintro e1' w1 ⟨rfl, hb⟩
    have hs := Lib.hid (show S8 w g0 w1.heap.size m Nn (w1.alloc (.cells (arr 9 Nn) 22)) from ⟨bel_al (bel_trans hB hb) _, (h0.keep hb).keep ((Below.refl _ _).alloc (Nat.le_refl _) _), Has.new _ _ _ _⟩)
    clear hb K19 h0 hB
    go_wp2_with (go_at_call 10; fail)
    have hVV : w1.alloc (.cells #[.int .i64 0, .int .i64 0, .int .i64 0, .int .i64 0, .int .i64 0, .int .i64 0, .int .i64 0, .int .i64 0, .int .i64 0] 22) = w1.alloc (.cells (arr 9 Nn) 22) := by rw [HV.out]
    rw [hVV]
    clear hVV
    generalize w1.alloc (.cells (arr 9 Nn) 22) = V1 at *
    generalize w1.heap.size = g3 at *
    (with_reducible refine (K10.out _).mono ?_)
    rintro e2' w2 ⟨rfl, hb⟩
    replace hs := Lib.hid (hs.out.keep hb)
    clear hb K10
    obtain ⟨a0, a1, a2, a3, a4, a5, a6, a7, a8⟩ := HC.out _ _ hs.out.2.2
    have hB := Lib.hid hs.out.1
    have ez := EZ.out
    clear hs HC HV EZ
    go_wp2
    go_ret
    exact ⟨rfl, hB.out⟩

end Go.Proofs.Ytmafmpgpaioniaa
