import Derived.Test.YtmafmpgpaioniaaProg
import Derived.WalkKit
import Derived.WalkLawsBesides
import Derived.Outline
import Derived.Lib.Walk
import Derived.Deep.QuietTactic
import Derived.BigQuiet
import Derived.RowKit3
import Derived.Deep.LoopGhost
import Derived.Laws.Rows
import Derived.Laws.Tables
import Derived.Laws.CopyOwn
import Derived.Lib.Hide
import Derived.Handy
import Derived.Deep.Onto
import Derived.IntWalk
import Derived.Deep.WholeRow
import Derived.Laws.ResultCell
import Derived.Test.YtmafmpgpaioniaaI0
import Derived.Test.YtmafmpgpaioniaaC32
import Derived.Test.YtmafmpgpaioniaaC11
namespace Go.Proofs.Ytmafmpgpaioniaa
open Go.RowKit
set_option maxHeartbeats 400000
set_option linter.unusedVariables false

set_option maxHeartbeats 8000000 in
set_option maxRecDepth 100000 in
theorem c19 (m : Nat → Int) (w : World) :
    Calls Try.prog 19 #[.agg (arr 9 m)] w fun e w' => e = .returned (.tuple #[.agg (arr 9 (invM m)), .int .i64 (invE m)]) ∧ Below w.heap.size w w' := by
  have CK := Lib.hid (show ∀ W : World, Calls Try.prog 11 #[.agg #[.int .i64 (m 0), .int .i64 (m 1), .int .i64 (m 2), .int .i64 (m 3), .int .i64 (m 4), .int .i64 (m 5), .int .i64 (m 6), .int .i64 (m 7), .int .i64 (m 8)]] W fun e w' => e = .returned (.int .i64 (ckM m)) ∧ Below W.heap.size W w' from fun W => c11 m W)
  obtain ⟨F, hF⟩ : ∃ F, invF m = F := ⟨_, rfl⟩
  have h0 := (Has.new w 9 22 m).keep ((Below.refl _ _).alloc (Nat.le_refl _) (.cells (arr 9 (part 0 F)) 22))
  have h1 := Has.new (w.alloc (.cells (arr 9 m) 22)) 9 22 (part 0 F)
  have hB := bel_al (bel_al (Below.refl w.heap.size w) (.cells (arr 9 m) 22)) (.cells (arr 9 (part 0 F)) 22)
  rw [World.size_alloc] at h1
  obtain ⟨g0, e0⟩ : ∃ g, g = w.heap.size := ⟨_, rfl⟩
  obtain ⟨g1, e1⟩ : ∃ g, g = w.heap.size + 1 := ⟨_, rfl⟩
  have HG := Lib.hid (show g0 ≠ g1 ∧ w.heap.size ≤ g1 by omega)
  rw [← e0, ← arr9 m] at h0
  rw [← e1, ← arr9 m] at h1
  rw [← arr9 m] at hB
  rw [← arr9 m]
  rcases @ckM_eq m with ⟨ea, oa⟩ | ⟨ea, oa⟩
  · rw [ea] at CK
    have CE := Lib.hid (show ∀ W : World, Calls Try.prog 30 #[.agg #[.int .i64 (m 0), .int .i64 (m 1), .int .i64 (m 2), .int .i64 (m 3), .int .i64 (m 4), .int .i64 (m 5), .int .i64 (m 6), .int .i64 (m 7), .int .i64 (m 8)]] W fun e w' => e = .returned (.int .i64 (detF m)) ∧ Below W.heap.size W w' from fun W => c30 m oa W)
    by_cases hz : detF m = 0
    · rw [(inv_flat oa hz).1, (inv_flat oa hz).2]
      rw [hz] at CE
      clear ea oa hz hF
      go_enter Try.func19, Try.ntmps19
      go_wp2_with (go_at_call 11; fail)
      rw [zeros9 F]
      generalize (w.alloc (.cells #[.int .i64 (m 0), .int .i64 (m 1), .int .i64 (m 2), .int .i64 (m 3), .int .i64 (m 4), .int .i64 (m 5), .int .i64 (m 6), .int .i64 (m 7), .int .i64 (m 8)] 22)).alloc (.cells (arr 9 (part 0 F)) 22) = V at *
      rw [← e1, ← e0]
      clear e1 e0
      (with_reducible refine (CK.out _).mono ?_)
      rintro e1 w1 ⟨rfl, hb1⟩
      have H0 := Lib.hid (h0.keep hb1)
      have H1 := Lib.hid (h1.keep hb1)
      have HB := Lib.hid (bel_trans hB hb1)
      clear h0 h1 hB hb1 CK
      obtain ⟨a0, a1, a2, a3, a4, a5, a6, a7, a8⟩ := H0.out.cells9
      go_wp2_with (go_at_call 30; fail)
      (with_reducible refine (CE.out _).mono ?_)
      rintro e2 w2 ⟨rfl, hb2⟩
      replace H0 := Lib.hid (H0.out.keep hb2)
      replace H1 := Lib.hid (H1.out.keep hb2)
      replace HB := Lib.hid (bel_trans HB.out hb2)
      clear hb2 CE a0 a1 a2 a3 a4 a5 a6 a7 a8
      obtain ⟨b0, b1, b2, b3, b4, b5, b6, b7, b8⟩ := H1.out.cells9
      obtain ⟨d0, d1, d2, d3, d4, d5, d6, d7, d8⟩ := H1.out.froz9
      have hR := Lib.hid (H1.out.set9 (fun _ => 0))
      have hBB := Lib.hid (bel_set9 HB.out HG.out.2 (fun _ => 0))
      clear H1 HB H0
      generalize part 0 F = y at *
      go_wp2
      exact bodyPost_ret (v := .tuple #[.agg (arr 9 fun _ => 0), .int .i64 17]) (results_pair rfl _ _ g1 (fun _ => 0) _ rfl rfl hR.out) rfl ⟨rfl, hBB.out⟩
    · rcases @ckM_eq F with ⟨ef, of⟩ | ⟨ef, of⟩
      · rw [(inv_ok oa hz (by rw [hF]; exact of)).1, (inv_ok oa hz (by rw [hF]; exact of)).2, hF]
        clear ea
        have HT := Lib.hid (fun i j hi hj => @inv_at m i j hi hj)
        have HC := Lib.hid (show ∀ (j i : Nat), j < 3 → i < 3 → ∀ W : World, Calls Try.prog 32 #[.agg #[.int .i64 (m 0), .int .i64 (m 1), .int .i64 (m 2), .int .i64 (m 3), .int .i64 (m 4), .int .i64 (m 5), .int .i64 (m 6), .int .i64 (m 7), .int .i64 (m 8)], .int .i64 (j : Int), .int .i64 (i : Int)] W fun e w' => e = .returned (.int .i64 (cofF m j i)) ∧ Below W.heap.size W w' from fun j i hj hi W => c32 m j i hj hi oa W)
        have HCB := Lib.hid (fun i j => cof_b oa i j)
        have hdb := detF_b oa
        have CF := Lib.hid (show ∀ W : World, Calls Try.prog 11 #[.agg #[.int .i64 (F 0), .int .i64 (F 1), .int .i64 (F 2), .int .i64 (F 3), .int .i64 (F 4), .int .i64 (F 5), .int .i64 (F 6), .int .i64 (F 7), .int .i64 (F 8)]] W fun e w' => e = .returned (.int .i64 (ckM F)) ∧ Below W.heap.size W w' from fun W => c11 F W)
        rw [hF] at HT
        obtain ⟨d, hd⟩ : ∃ d, detF m = d := ⟨_, rfl⟩
        rw [hd] at HT hz hdb CE
        have hz' : (d == 0) = false := by simpa using hz
        clear hd hF
        rw [ef] at CF
        clear hz oa ef of
        go_enter Try.func19, Try.ntmps19
        go_wp2_with (go_at_call 11; fail)
        rw [zeros9 F]
        generalize (w.alloc (.cells #[.int .i64 (m 0), .int .i64 (m 1), .int .i64 (m 2), .int .i64 (m 3), .int .i64 (m 4), .int .i64 (m 5), .int .i64 (m 6), .int .i64 (m 7), .int .i64 (m 8)] 22)).alloc (.cells (arr 9 (part 0 F)) 22) = V at *
        rw [← e1, ← e0]
        clear e1 e0
        (with_reducible refine (CK.out _).mono ?_)
        rintro e1 w1 ⟨rfl, hb1⟩
        have H0 := Lib.hid (h0.keep hb1)
        have H1 := Lib.hid (h1.keep hb1)
        have HB := Lib.hid (bel_trans hB hb1)
        clear h0 h1 hB hb1 CK
        obtain ⟨a0, a1, a2, a3, a4, a5, a6, a7, a8⟩ := H0.out.cells9
        go_wp2_with (go_at_call 30; fail)
        (with_reducible refine (CE.out _).mono ?_)
        rintro e2 w2 ⟨rfl, hb2⟩
        replace H0 := Lib.hid (H0.out.keep hb2)
        replace H1 := Lib.hid (H1.out.keep hb2)
        replace HB := Lib.hid (bel_trans HB.out hb2)
        clear hb2 CE a0 a1 a2 a3 a4 a5 a6 a7 a8
        have HS := Lib.hid (show S3 w g0 g1 w2.heap.size 9 22 m 9 22 (part 0 F) 9 22 (part 0 F) (w2.alloc (.cells (arr 9 (part 0 F)) 22)) from ⟨bel_al HB.out _, H0.out.keep ((Below.refl _ _).alloc (Nat.le_refl _) _), H1.out.keep ((Below.refl _ _).alloc (Nat.le_refl _) _), Has.new _ _ _ _⟩)
        have HG2 := Lib.hid (show g0 ≠ w2.heap.size ∧ g1 ≠ w2.heap.size ∧ w.heap.size ≤ w2.heap.size from ⟨Nat.ne_of_lt H0.out.lt, Nat.ne_of_lt H1.out.lt, HB.out.size⟩)
        clear H0 H1 HB
        go_wp2_with fail
        rw [zeros9 F]
        generalize w2.alloc (.cells (arr 9 (part 0 F)) 22) = V2 at *
        generalize w2.heap.size = g2 at *
        obtain ⟨y, hy⟩ : ∃ y, part 0 F = y := ⟨_, rfl⟩
        have HY := Lib.hid hy
        rw [hy] at HS
        clear hy
        go_loopw [20] (fun ii W => ∃ i : Nat, ii = .int .i64 (i : Int) ∧ i ≤ 3 ∧ Hid (S3 w g0 g1 g2 9 22 m 9 22 y 9 22 (part (3 * i) F) W)) (fun ii _ => (3 - (intOf ii).toNat))
        case atStart => exact ⟨0, rfl, by omega, Lib.hid (show S3 w g0 g1 g2 9 22 m 9 22 y 9 22 (part 0 F) V2 by rw [HY.out]; exact HS.out)⟩
        case round =>
          obtain ⟨i, rfl, hi, hs⟩ := hrel
          clear HS
          by_cases hlt : i < 3
          · have ki : IntKind.i64.wrap ((i : Int) + 1) = (i : Int) + 1 := IntWalk.i64_in _ (by omega)
            have i3 : (i : Int) < 3 := by omega
            go_wp2
            go_loopw [23] (fun jj W => ∃ j : Nat, jj = .int .i64 (j : Int) ∧ j ≤ 3 ∧ Hid (S3 w g0 g1 g2 9 22 m 9 22 y 9 22 (part (3 * i + j) F) W)) (fun jj _ => (3 - (intOf jj).toNat))
            case atStart => exact ⟨0, rfl, by omega, hs⟩
            case round =>
              obtain ⟨j, rfl, hj, ht⟩ := hrel
              clear hs
              by_cases hlj : j < 3
              · obtain ⟨n, hn⟩ : ∃ n, n = 3 * i + j := ⟨_, rfl⟩
                obtain ⟨p0, hp0⟩ : ∃ p, p = 3 * i := ⟨_, rfl⟩
                have f0 : IntKind.i64.wrap (3 * (i : Int)) = (p0 : Int) := by rw [IntWalk.i64_in _ (by omega)]; omega
                have f3 : IntKind.i64.wrap ((p0 : Int) + (j : Int)) = (n : Int) := by rw [IntWalk.i64_in _ (by omega)]; omega
                have n9 : (n : Int) < 9 := by omega
                have j3 : (j : Int) < 3 := by omega
                have kj : IntKind.i64.wrap ((j : Int) + 1) = (j : Int) + 1 := IntWalk.i64_in _ (by omega)
                obtain ⟨r, hr⟩ : ∃ r, F n = r := ⟨_, rfl⟩
                have CC := Lib.hid (fun (W : World) => (HC.out j i hlj hlt W))
                have hcb := HCB.out j i
                have hrat := HT.out i j hlt hlj
                rw [← hn, hr] at hrat
                rw [← hn] at ht
                have hij := Lib.hid (show n + 1 = 3 * i + (j + 1) by omega)
                obtain ⟨a0, a1, a2, a3, a4, a5, a6, a7, a8⟩ := ht.out.2.1.cells9
                have HR2 := Lib.hid hr
                have HTT := Lib.hid ht.out
                clear ht hn hp0 hr HC HCB HT
                generalize cofF m j i = c at *
                have hw : IntKind.i64.wrap (c * 65536) = c * 65536 := IntWalk.i64_in _ (by omega)
                have CR := Lib.hid (fun W => t27 (c * 65536) d W (by omega) (by omega) (by omega) (by omega))
                rw [← hrat] at CR
                clear hrat hcb
                go_wp2_with (go_at_call 32; fail)
                (with_reducible refine (CC.out _).mono ?_)
                rintro e5 w5 ⟨rfl, hb5⟩
                have T5 := Lib.hid (HTT.out.keep hb5)
                clear hb5 HTT CC a0 a1 a2 a3 a4 a5 a6 a7 a8
                go_wp2_with (go_at_call 31; fail)
                (with_reducible refine (CR.out _).mono ?_)
                rintro e6 w6 ⟨rfl, q, rfl⟩
                have cn := T5.out.2.2.2.cell (j := n) (by omega)
                have fn := T5.out.2.2.2.frozen n
                have HN := Lib.hid ((T5.out.keep (bel_drewN q)).part2 HG2.out.1 HG2.out.2.1 HG2.out.2.2 HR2.out)
                clear T5 CR HR2
                generalize part n F n = yn at *
                go_wp2
                go_roundw
                case rel => exact ⟨j + 1, by simp, by omega, by rw [← hij.out]; exact Lib.hid HN.out⟩
                case measure => simp [intOf]; omega
              · obtain rfl : j = 3 := by omega
                have hs := Lib.hid (show S3 w g0 g1 g2 9 22 m 9 22 y 9 22 (part (3 * (i + 1)) F) wr by rw [show 3 * (i + 1) = 3 * i + 3 by omega]; exact ht.out)
                clear ht hlj hj
                go_wp2_with fail
                go_roundw
                case rel => exact ⟨i + 1, by simp, by omega, hs⟩
                case measure => simp [intOf]; omega
          · obtain rfl : i = 3 := by omega
            have h3 := hs.out.2.2.2.full9
            have H1 := Lib.hid hs.out.2.2.1
            have HB := Lib.hid hs.out.1
            obtain ⟨a0, a1, a2, a3, a4, a5, a6, a7, a8⟩ := h3.cells9
            have H3 := Lib.hid h3
            clear hlt hi hs h3 HC HCB HT
            go_wp2_with (go_at_call 11; fail)
            (with_reducible refine (CF.out _).mono ?_)
            rintro e7 w7 ⟨rfl, hb7⟩
            replace H1 := Lib.hid (H1.out.keep hb7)
            replace HB := Lib.hid (bel_trans HB.out hb7)
            replace H3 := Lib.hid (H3.out.keep hb7)
            clear hb7 a0 a1 a2 a3 a4 a5 a6 a7 a8 CF
            obtain ⟨a0, a1, a2, a3, a4, a5, a6, a7, a8⟩ := H3.out.cells9
            obtain ⟨b0, b1, b2, b3, b4, b5, b6, b7, b8⟩ := H1.out.cells9
            obtain ⟨x0, x1, x2, x3, x4, x5, x6, x7, x8⟩ := H1.out.froz9
            have hR := Lib.hid (H1.out.set9 F)
            have hBB := Lib.hid (bel_set9 HB.out HG.out.2 F)
            clear H1 HB H3
            go_wp2
            exact bodyPost_ret (v := .tuple #[.agg (arr 9 F), .int .i64 0]) (results_pair rfl _ _ g1 F _ rfl rfl hR.out) rfl ⟨rfl, hBB.out⟩
      · rw [(inv_wide oa hz (by rw [hF]; exact of)).1, (inv_wide oa hz (by rw [hF]; exact of)).2]
        clear ea
        have HT := Lib.hid (fun i j hi hj => @inv_at m i j hi hj)
        have HC := Lib.hid (show ∀ (j i : Nat), j < 3 → i < 3 → ∀ W : World, Calls Try.prog 32 #[.agg #[.int .i64 (m 0), .int .i64 (m 1), .int .i64 (m 2), .int .i64 (m 3), .int .i64 (m 4), .int .i64 (m 5), .int .i64 (m 6), .int .i64 (m 7), .int .i64 (m 8)], .int .i64 (j : Int), .int .i64 (i : Int)] W fun e w' => e = .returned (.int .i64 (cofF m j i)) ∧ Below W.heap.size W w' from fun j i hj hi W => c32 m j i hj hi oa W)
        have HCB := Lib.hid (fun i j => cof_b oa i j)
        have hdb := detF_b oa
        have CF := Lib.hid (show ∀ W : World, Calls Try.prog 11 #[.agg #[.int .i64 (F 0), .int .i64 (F 1), .int .i64 (F 2), .int .i64 (F 3), .int .i64 (F 4), .int .i64 (F 5), .int .i64 (F 6), .int .i64 (F 7), .int .i64 (F 8)]] W fun e w' => e = .returned (.int .i64 (ckM F)) ∧ Below W.heap.size W w' from fun W => c11 F W)
        rw [hF] at HT
        obtain ⟨d, hd⟩ : ∃ d, detF m = d := ⟨_, rfl⟩
        rw [hd] at HT hz hdb CE
        have hz' : (d == 0) = false := by simpa using hz
        clear hd hF
        rw [ef] at CF
        clear hz oa ef of
        go_enter Try.func19, Try.ntmps19
        go_wp2_with (go_at_call 11; fail)
        rw [zeros9 F]
        generalize (w.alloc (.cells #[.int .i64 (m 0), .int .i64 (m 1), .int .i64 (m 2), .int .i64 (m 3), .int .i64 (m 4), .int .i64 (m 5), .int .i64 (m 6), .int .i64 (m 7), .int .i64 (m 8)] 22)).alloc (.cells (arr 9 (part 0 F)) 22) = V at *
        rw [← e1, ← e0]
        clear e1 e0
        (with_reducible refine (CK.out _).mono ?_)
        rintro e1 w1 ⟨rfl, hb1⟩
        have H0 := Lib.hid (h0.keep hb1)
        have H1 := Lib.hid (h1.keep hb1)
        have HB := Lib.hid (bel_trans hB hb1)
        clear h0 h1 hB hb1 CK
        obtain ⟨a0, a1, a2, a3, a4, a5, a6, a7, a8⟩ := H0.out.cells9
        go_wp2_with (go_at_call 30; fail)
        (with_reducible refine (CE.out _).mono ?_)
        rintro e2 w2 ⟨rfl, hb2⟩
        replace H0 := Lib.hid (H0.out.keep hb2)
        replace H1 := Lib.hid (H1.out.keep hb2)
        replace HB := Lib.hid (bel_trans HB.out hb2)
        clear hb2 CE a0 a1 a2 a3 a4 a5 a6 a7 a8
        have HS := Lib.hid (show S3 w g0 g1 w2.heap.size 9 22 m 9 22 (part 0 F) 9 22 (part 0 F) (w2.alloc (.cells (arr 9 (part 0 F)) 22)) from ⟨bel_al HB.out _, H0.out.keep ((Below.refl _ _).alloc (Nat.le_refl _) _), H1.out.keep ((Below.refl _ _).alloc (Nat.le_refl _) _), Has.new _ _ _ _⟩)
        have HG2 := Lib.hid (show g0 ≠ w2.heap.size ∧ g1 ≠ w2.heap.size ∧ w.heap.size ≤ w2.heap.size from ⟨Nat.ne_of_lt H0.out.lt, Nat.ne_of_lt H1.out.lt, HB.out.size⟩)
        clear H0 H1 HB
        go_wp2_with fail
        rw [zeros9 F]
        generalize w2.alloc (.cells (arr 9 (part 0 F)) 22) = V2 at *
        generalize w2.heap.size = g2 at *
        obtain ⟨y, hy⟩ : ∃ y, part 0 F = y := ⟨_, rfl⟩
        have HY := Lib.hid hy
        rw [hy] at HS
        clear hy
        go_loopw [20] (fun ii W => ∃ i : Nat, ii = .int .i64 (i : Int) ∧ i ≤ 3 ∧ Hid (S3 w g0 g1 g2 9 22 m 9 22 y 9 22 (part (3 * i) F) W)) (fun ii _ => (3 - (intOf ii).toNat))
        case atStart => exact ⟨0, rfl, by omega, Lib.hid (show S3 w g0 g1 g2 9 22 m 9 22 y 9 22 (part 0 F) V2 by rw [HY.out]; exact HS.out)⟩
        case round =>
          obtain ⟨i, rfl, hi, hs⟩ := hrel
          clear HS
          by_cases hlt : i < 3
          · have ki : IntKind.i64.wrap ((i : Int) + 1) = (i : Int) + 1 := IntWalk.i64_in _ (by omega)
            have i3 : (i : Int) < 3 := by omega
            go_wp2
            go_loopw [23] (fun jj W => ∃ j : Nat, jj = .int .i64 (j : Int) ∧ j ≤ 3 ∧ Hid (S3 w g0 g1 g2 9 22 m 9 22 y 9 22 (part (3 * i + j) F) W)) (fun jj _ => (3 - (intOf jj).toNat))
            case atStart => exact ⟨0, rfl, by omega, hs⟩
            case round =>
              obtain ⟨j, rfl, hj, ht⟩ := hrel
              clear hs
              by_cases hlj : j < 3
              · obtain ⟨n, hn⟩ : ∃ n, n = 3 * i + j := ⟨_, rfl⟩
                obtain ⟨p0, hp0⟩ : ∃ p, p = 3 * i := ⟨_, rfl⟩
                have f0 : IntKind.i64.wrap (3 * (i : Int)) = (p0 : Int) := by rw [IntWalk.i64_in _ (by omega)]; omega
                have f3 : IntKind.i64.wrap ((p0 : Int) + (j : Int)) = (n : Int) := by rw [IntWalk.i64_in _ (by omega)]; omega
                have n9 : (n : Int) < 9 := by omega
                have j3 : (j : Int) < 3 := by omega
                have kj : IntKind.i64.wrap ((j : Int) + 1) = (j : Int) + 1 := IntWalk.i64_in _ (by omega)
                obtain ⟨r, hr⟩ : ∃ r, F n = r := ⟨_, rfl⟩
                have CC := Lib.hid (fun (W : World) => (HC.out j i hlj hlt W))
                have hcb := HCB.out j i
                have hrat := HT.out i j hlt hlj
                rw [← hn, hr] at hrat
                rw [← hn] at ht
                have hij := Lib.hid (show n + 1 = 3 * i + (j + 1) by omega)
                obtain ⟨a0, a1, a2, a3, a4, a5, a6, a7, a8⟩ := ht.out.2.1.cells9
                have HR2 := Lib.hid hr
                have HTT := Lib.hid ht.out
                clear ht hn hp0 hr HC HCB HT
                generalize cofF m j i = c at *
                have hw : IntKind.i64.wrap (c * 65536) = c * 65536 := IntWalk.i64_in _ (by omega)
                have CR := Lib.hid (fun W => t27 (c * 65536) d W (by omega) (by omega) (by omega) (by omega))
                rw [← hrat] at CR
                clear hrat hcb
                go_wp2_with (go_at_call 32; fail)
                (with_reducible refine (CC.out _).mono ?_)
                rintro e5 w5 ⟨rfl, hb5⟩
                have T5 := Lib.hid (HTT.out.keep hb5)
                clear hb5 HTT CC a0 a1 a2 a3 a4 a5 a6 a7 a8
                go_wp2_with (go_at_call 31; fail)
                (with_reducible refine (CR.out _).mono ?_)
                rintro e6 w6 ⟨rfl, q, rfl⟩
                have cn := T5.out.2.2.2.cell (j := n) (by omega)
                have fn := T5.out.2.2.2.frozen n
                have HN := Lib.hid ((T5.out.keep (bel_drewN q)).part2 HG2.out.1 HG2.out.2.1 HG2.out.2.2 HR2.out)
                clear T5 CR HR2
                generalize part n F n = yn at *
                go_wp2
                go_roundw
                case rel => exact ⟨j + 1, by simp, by omega, by rw [← hij.out]; exact Lib.hid HN.out⟩
                case measure => simp [intOf]; omega
              · obtain rfl : j = 3 := by omega
                have hs := Lib.hid (show S3 w g0 g1 g2 9 22 m 9 22 y 9 22 (part (3 * (i + 1)) F) wr by rw [show 3 * (i + 1) = 3 * i + 3 by omega]; exact ht.out)
                clear ht hlj hj
                go_wp2_with fail
                go_roundw
                case rel => exact ⟨i + 1, by simp, by omega, hs⟩
                case measure => simp [intOf]; omega
          · obtain rfl : i = 3 := by omega
            have h3 := hs.out.2.2.2.full9
            have H1 := Lib.hid hs.out.2.2.1
            have HB := Lib.hid hs.out.1
            obtain ⟨a0, a1, a2, a3, a4, a5, a6, a7, a8⟩ := h3.cells9
            have H3 := Lib.hid h3
            clear hlt hi hs h3 HC HCB HT
            go_wp2_with (go_at_call 11; fail)
            (with_reducible refine (CF.out _).mono ?_)
            rintro e7 w7 ⟨rfl, hb7⟩
            replace H1 := Lib.hid (H1.out.keep hb7)
            replace HB := Lib.hid (bel_trans HB.out hb7)
            replace H3 := Lib.hid (H3.out.keep hb7)
            clear hb7 a0 a1 a2 a3 a4 a5 a6 a7 a8 CF
            obtain ⟨b0, b1, b2, b3, b4, b5, b6, b7, b8⟩ := H1.out.cells9
            obtain ⟨x0, x1, x2, x3, x4, x5, x6, x7, x8⟩ := H1.out.froz9
            have hR := Lib.hid (H1.out.set9 (fun _ => 0))
            have hBB := Lib.hid (bel_set9 HB.out HG.out.2 (fun _ => 0))
            clear H1 HB H3
            go_wp2
            exact bodyPost_ret (v := .tuple #[.agg (arr 9 fun _ => 0), .int .i64 17]) (results_pair rfl _ _ g1 (fun _ => 0) _ rfl rfl hR.out) rfl ⟨rfl, hBB.out⟩
  · rw [ea] at CK
    rw [(inv_bad oa).1, (inv_bad oa).2]
    clear ea oa hF
    go_enter Try.func19, Try.ntmps19
    go_wp2_with (go_at_call 11; fail)
    rw [zeros9 F]
    generalize (w.alloc (.cells #[.int .i64 (m 0), .int .i64 (m 1), .int .i64 (m 2), .int .i64 (m 3), .int .i64 (m 4), .int .i64 (m 5), .int .i64 (m 6), .int .i64 (m 7), .int .i64 (m 8)] 22)).alloc (.cells (arr 9 (part 0 F)) 22) = V at *
    rw [← e1, ← e0]
    clear e1 e0
    (with_reducible refine (CK.out _).mono ?_)
    rintro e1 w1 ⟨rfl, hb1⟩
    have H0 := Lib.hid (h0.keep hb1)
    have H1 := Lib.hid (h1.keep hb1)
    have HB := Lib.hid (bel_trans hB hb1)
    clear h0 h1 hB hb1 CK
    obtain ⟨b0, b1, b2, b3, b4, b5, b6, b7, b8⟩ := H1.out.cells9
    obtain ⟨d0, d1, d2, d3, d4, d5, d6, d7, d8⟩ := H1.out.froz9
    have hR := Lib.hid (H1.out.set9 (fun _ => 0))
    have hBB := Lib.hid (bel_set9 HB.out HG.out.2 (fun _ => 0))
    clear H1 HB H0
    generalize part 0 F = y at *
    go_wp2
    exact bodyPost_ret (v := .tuple #[.agg (arr 9 fun _ => 0), .int .i64 2]) (results_pair rfl _ _ g1 (fun _ => 0) _ rfl rfl hR.out) rfl ⟨rfl, hBB.out⟩

end Go.Proofs.Ytmafmpgpaioniaa
