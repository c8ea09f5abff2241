import Derived.Test.YtmafmpgpaioniaaProg
import Derived.WalkKit
import Derived.WalkLawsBesides
import Derived.Outline
import Derived.Lib.Walk
import Derived.Deep.QuietTactic
import Derived.BigQuiet
import Derived.RowKit3
import Derived.Deep.LoopGhost
import Derived.Laws.Rows
import Derived.Laws.Tables
import Derived.Laws.CopyOwn
import Derived.Lib.Hide
import Derived.Handy
import Derived.Deep.Onto
import Derived.IntWalk
import Derived.Deep.WholeRow
import Derived.Laws.ResultCell
import Derived.Test.YtmafmpgpaioniaaI0
import Derived.Test.YtmafmpgpaioniaaS12
import Derived.Test.YtmafmpgpaioniaaS33
import Derived.Test.YtmafmpgpaioniaaS34
import Derived.Test.YtmafmpgpaioniaaC19
namespace Go.Proofs.Ytmafmpgpaioniaa
open Go.RowKit
set_option maxHeartbeats 400000
set_option linter.unusedVariables false

theorem s34 (n d : Int) (hn : n.natAbs ≤ 4398046511104) (hd : d ≠ 0) (hdb : d.natAbs < 9223372036854775808) (w : World) :
    Calls Try.prog 34 #[.int .i64 n, .int .i64 d] w fun e w' => e = .returned (.tuple #[.int .i64 (elV n d), .bool (elB n d)]) ∧ w = w' := by
  by_cases h1 : n < 0 <;> by_cases h2 : d < 0
  · obtain ⟨x, rfl⟩ : ∃ x : Nat, n = -(x : Int) := ⟨n.natAbs, by omega⟩
    obtain ⟨y, rfl⟩ : ∃ y : Nat, d = -(y : Int) := ⟨d.natAbs, by omega⟩
    exact el11 x y (by omega) (by omega) (by omega) (by omega) w
  · obtain ⟨x, rfl⟩ : ∃ x : Nat, n = -(x : Int) := ⟨n.natAbs, by omega⟩
    obtain ⟨y, rfl⟩ : ∃ y : Nat, d = (y : Int) := ⟨d.natAbs, by omega⟩
    exact el10 x y (by omega) (by omega) (by omega) (by omega) w
  · obtain ⟨x, rfl⟩ : ∃ x : Nat, n = (x : Int) := ⟨n.natAbs, by omega⟩
    obtain ⟨y, rfl⟩ : ∃ y : Nat, d = -(y : Int) := ⟨d.natAbs, by omega⟩
    exact el01 x y (by omega) (by omega) (by omega) w
  · obtain ⟨x, rfl⟩ : ∃ x : Nat, n = (x : Int) := ⟨n.natAbs, by omega⟩
    obtain ⟨y, rfl⟩ : ∃ y : Nat, d = (y : Int) := ⟨d.natAbs, by omega⟩
    exact el00 x y (by omega) (by omega) (by omega) w
theorem okM_inb {m : Nat → Int} (h : ∀ k, k < 9 → inb (m k) = true) : okM m = true := okM_of fun j hj => (inb_iff _).1 (h j hj)
theorem okM_not {m : Nat → Int} {k : Nat} (hk : k < 9) (h : inb (m k) = false) : okM m = false := by
  refine Bool.eq_false_iff.2 fun h' => ?_
  have := (inb_iff _).2 (okM_at h' k hk)
  rw [h] at this
  cases this

set_option maxHeartbeats 8000000 in
set_option maxRecDepth 100000 in
theorem s20 (m : Nat → Int) (w : World) :
    Calls Try.prog 20 #[.agg (arr 9 m)] w fun e w' => e = .returned (.tuple #[.agg (arr 9 (invM m)), .int .i64 (invE m)]) ∧ Below w.heap.size w w' := by
  have CK := Lib.hid (show ∀ W : World, Calls Try.prog 12 #[.agg #[.int .i64 (m 0), .int .i64 (m 1), .int .i64 (m 2), .int .i64 (m 3), .int .i64 (m 4), .int .i64 (m 5), .int .i64 (m 6), .int .i64 (m 7), .int .i64 (m 8)]] W fun e w' => e = .returned (.int .i64 (ckM m)) ∧ Below W.heap.size W w' from fun W => s12 m W)
  obtain ⟨F, hF⟩ : ∃ F, invF m = F := ⟨_, rfl⟩
  have HS := Lib.hid (S3.new w 9 9 9 22 22 22 m (part 0 F) (part 0 F))
  obtain ⟨g0, e0⟩ : ∃ g, g = w.heap.size := ⟨_, rfl⟩
  obtain ⟨g1, e1⟩ : ∃ g, g = w.heap.size + 1 := ⟨_, rfl⟩
  obtain ⟨g2, e2⟩ : ∃ g, g = w.heap.size + 1 + 1 := ⟨_, rfl⟩
  have HG := Lib.hid (show g0 ≠ g2 ∧ g1 ≠ g2 ∧ w.heap.size ≤ g1 ∧ w.heap.size ≤ g2 by omega)
  rw [← e2, ← e1, ← e0, ← arr9 m] at HS
  obtain ⟨y, hy⟩ : ∃ y, part 0 F = y := ⟨_, rfl⟩
  have HY := Lib.hid hy
  have hy0 : y = fun _ => 0 := by rw [← hy, part_zero]
  rw [← arr9 m]
  rcases @ckM_eq m with ⟨ea, oa⟩ | ⟨ea, oa⟩
  · rw [ea] at CK
    have CE := Lib.hid (show ∀ W : World, Calls Try.prog 33 #[.agg #[.int .i64 (m 0), .int .i64 (m 1), .int .i64 (m 2), .int .i64 (m 3), .int .i64 (m 4), .int .i64 (m 5), .int .i64 (m 6), .int .i64 (m 7), .int .i64 (m 8)]] W fun e w' => e = .returned (.int .i64 (detF m)) ∧ Below W.heap.size W w' from fun W => s33 m oa W)
    by_cases hz : detF m = 0
    · rw [(inv_flat oa hz).1, (inv_flat oa hz).2, ← hy0]
      rw [hz] at CE
      clear ea oa hz hF hy0
      go_enter Try.func20, Try.ntmps20
      go_wp2_with (go_at_call 12; fail)
      rw [zeros9 F]
      generalize ((w.alloc (.cells #[.int .i64 (m 0), .int .i64 (m 1), .int .i64 (m 2), .int .i64 (m 3), .int .i64 (m 4), .int .i64 (m 5), .int .i64 (m 6), .int .i64 (m 7), .int .i64 (m 8)] 22)).alloc (.cells (arr 9 (part 0 F)) 22)).alloc (.cells (arr 9 (part 0 F)) 22) = V at *
      rw [← e2, ← e1, ← e0]
      rw [hy] at HS
      clear e2 e1 e0 hy
      (with_reducible refine (CK.out _).mono ?_)
      rintro e1 w1 ⟨rfl, hb1⟩
      replace HS := Lib.hid (HS.out.keep hb1)
      clear hb1 CK
      obtain ⟨a0, a1, a2, a3, a4, a5, a6, a7, a8⟩ := HS.out.2.1.cells9
      go_wp2_with (go_at_call 33; fail)
      (with_reducible refine (CE.out _).mono ?_)
      rintro e2 w2 ⟨rfl, hb2⟩
      replace HS := Lib.hid (HS.out.keep hb2)
      clear hb2 CE a0 a1 a2 a3 a4 a5 a6 a7 a8
      have h3 := HS.out.2.2.2
      have h2 := HS.out.2.2.1
      obtain ⟨a0, a1, a2, a3, a4, a5, a6, a7, a8⟩ := h3.cells9
      obtain ⟨b0, b1, b2, b3, b4, b5, b6, b7, b8⟩ := h2.cells9
      obtain ⟨x0, x1, x2, x3, x4, x5, x6, x7, x8⟩ := h2.froz9
      have hR := Lib.hid (h2.set9 y)
      have hBB := Lib.hid (bel_set9 HS.out.1 HG.out.2.2.1 y)
      clear h2 h3 HS
      go_wp2
      exact bodyPost_ret (v := .tuple #[.agg (arr 9 y), .int .i64 17]) (results_pair rfl _ _ g1 y _ rfl rfl hR.out) rfl ⟨rfl, hBB.out⟩
    · clear hy0
      have HT := Lib.hid (fun i j hi hj => @inv_at m i j hi hj)
      have HC := Lib.hid (show ∀ (j i : Nat), j < 3 → i < 3 → ∀ W : World, Calls Try.prog 35 #[.agg #[.int .i64 (m 0), .int .i64 (m 1), .int .i64 (m 2), .int .i64 (m 3), .int .i64 (m 4), .int .i64 (m 5), .int .i64 (m 6), .int .i64 (m 7), .int .i64 (m 8)], .int .i64 (j : Int), .int .i64 (i : Int)] W fun e w' => e = .returned (.int .i64 (cofF m j i)) ∧ Below W.heap.size W w' from fun j i hj hi W => s35 m j i hj hi oa W)
      have HCB := Lib.hid (fun i j => cof_b oa i j)
      have hdb := detF_b oa
      have HBAD := Lib.hid (fun k (hk : k < 9) (h : inb (F k) = false) => inv_wide oa hz (by rw [hF]; exact okM_not hk h))
      have HOK := Lib.hid (fun (h : ∀ k, k < 9 → inb (F k) = true) => inv_ok oa hz (by rw [hF]; exact okM_inb h))
      rw [hF] at HT HOK
      obtain ⟨d, hd⟩ : ∃ d, detF m = d := ⟨_, rfl⟩
      rw [hd] at HT hz hdb CE
      have hz' : (d == 0) = false := by simpa using hz
      obtain ⟨IM, hIM⟩ : ∃ f, invM m = f := ⟨_, rfl⟩
      obtain ⟨IE, hIE⟩ : ∃ f, invE m = f := ⟨_, rfl⟩
      rw [hIM, hIE] at HBAD HOK ⊢
      have HZ := Lib.hid hz
      clear hd hF hIM hIE oa hz ea
      go_enter Try.func20, Try.ntmps20
      go_wp2_with (go_at_call 12; fail)
      rw [zeros9 F]
      generalize ((w.alloc (.cells #[.int .i64 (m 0), .int .i64 (m 1), .int .i64 (m 2), .int .i64 (m 3), .int .i64 (m 4), .int .i64 (m 5), .int .i64 (m 6), .int .i64 (m 7), .int .i64 (m 8)] 22)).alloc (.cells (arr 9 (part 0 F)) 22)).alloc (.cells (arr 9 (part 0 F)) 22) = V at *
      rw [← e2, ← e1, ← e0]
      rw [hy] at HS
      clear e2 e1 e0 hy
      (with_reducible refine (CK.out _).mono ?_)
      rintro e1 w1 ⟨rfl, hb1⟩
      replace HS := Lib.hid (HS.out.keep hb1)
      clear hb1 CK
      obtain ⟨a0, a1, a2, a3, a4, a5, a6, a7, a8⟩ := HS.out.2.1.cells9
      go_wp2_with (go_at_call 33; fail)
      (with_reducible refine (CE.out _).mono ?_)
      rintro e2 w2 ⟨rfl, hb2⟩
      replace HS := Lib.hid (HS.out.keep hb2)
      clear hb2 CE a0 a1 a2 a3 a4 a5 a6 a7 a8
      go_wp2_with fail
      go_loopw [6] (fun ii W => ∃ i : Nat, ii = .int .i64 (i : Int) ∧ i ≤ 3 ∧ Hid (S3 w g0 g1 g2 9 22 m 9 22 y 9 22 (part (3 * i) F) W ∧ ∀ k, k < 3 * i → inb (F k) = true)) (fun ii _ => (3 - (intOf ii).toNat))
      case atStart => exact ⟨0, rfl, by omega, Lib.hid ⟨show S3 w g0 g1 g2 9 22 m 9 22 y 9 22 (part 0 F) w2 by rw [HY.out]; exact HS.out, fun k hk => absurd hk (by omega)⟩⟩
      case round =>
        obtain ⟨i, rfl, hi, hs⟩ := hrel
        clear HS
        by_cases hlt : i < 3
        · have ki : IntKind.i64.wrap ((i : Int) + 1) = (i : Int) + 1 := IntWalk.i64_in _ (by omega)
          have i3 : (i : Int) < 3 := by omega
          go_wp2
          go_loopw [7] (fun jj W => ∃ j : Nat, jj = .int .i64 (j : Int) ∧ j ≤ 3 ∧ Hid (S3 w g0 g1 g2 9 22 m 9 22 y 9 22 (part (3 * i + j) F) W ∧ ∀ k, k < 3 * i + j → inb (F k) = true)) (fun jj _ => (3 - (intOf jj).toNat))
          case atStart => exact ⟨0, rfl, by omega, hs⟩
          case round =>
            obtain ⟨j, rfl, hj, ht⟩ := hrel
            clear hs
            by_cases hlj : j < 3
            · obtain ⟨n, hn⟩ : ∃ n, n = 3 * i + j := ⟨_, rfl⟩
              obtain ⟨p0, hp0⟩ : ∃ p, p = 3 * i := ⟨_, rfl⟩
              have f0 : IntKind.i64.wrap (3 * (i : Int)) = (p0 : Int) := by rw [IntWalk.i64_in _ (by omega)]; omega
              have f3 : IntKind.i64.wrap ((p0 : Int) + (j : Int)) = (n : Int) := by rw [IntWalk.i64_in _ (by omega)]; omega
              have n9 : (n : Int) < 9 := by omega
              have n9' : n < 9 := by omega
              have j3 : (j : Int) < 3 := by omega
              have kj : IntKind.i64.wrap ((j : Int) + 1) = (j : Int) + 1 := IntWalk.i64_in _ (by omega)
              obtain ⟨r, hr⟩ : ∃ r, F n = r := ⟨_, rfl⟩
              have CC := Lib.hid (fun (W : World) => (HC.out j i hlj hlt W))
              have hcb := HCB.out j i
              have hrat := HT.out i j hlt hlj
              rw [← hn, hr] at hrat
              rw [← hn] at ht
              have hij := Lib.hid (show n + 1 = 3 * i + (j + 1) by omega)
              obtain ⟨a0, a1, a2, a3, a4, a5, a6, a7, a8⟩ := ht.out.1.2.1.cells9
              have HR2 := Lib.hid hr
              have HTT := Lib.hid ht.out.1
              have HAll := Lib.hid ht.out.2
              have hbad := fun (h : inb r = false) => HBAD.out n n9' (by rw [hr]; exact h)
              clear ht hn hp0 hr HC HCB HT HOK HBAD
              generalize cofF m j i = c at *
              have CR := Lib.hid (fun W => s34 c d (by omega) HZ.out (by omega) W)
              have ev : elV c d = if inb r then r else 0 := by unfold elV; rw [← hrat]
              have eb : elB c d = inb r := by unfold elB; rw [← hrat]
              rw [ev, eb] at CR
              clear hrat hcb ev eb HZ
              cases hin : inb r
              · obtain ⟨v1, v2⟩ := hbad hin
                subst v1 v2
                rw [hin] at CR
                clear hbad hin HAll
                go_wp2_with (go_at_call 35; fail)
                (with_reducible refine (CC.out _).mono ?_)
                rintro e5 w5 ⟨rfl, hb5⟩
                have T5 := Lib.hid (HTT.out.keep hb5)
                clear hb5 HTT CC a0 a1 a2 a3 a4 a5 a6 a7 a8
                go_wp2_with (go_at_call 34; fail)
                (with_reducible refine (CR.out _).mono ?_)
                rintro e6 w6 ⟨rfl, rfl⟩
                have h2 := T5.out.2.2.1
                obtain ⟨b0, b1, b2, b3, b4, b5, b6, b7, b8⟩ := h2.cells9
                obtain ⟨x0, x1, x2, x3, x4, x5, x6, x7, x8⟩ := h2.froz9
                have hR := Lib.hid (h2.set9 (fun _ => 0))
                have hBB := Lib.hid (bel_set9 T5.out.1 HG.out.2.2.1 (fun _ => 0))
                clear h2 T5 CR HR2
                generalize part n F n = yn at *
                go_wp2
                exact bodyPost_ret (v := .tuple #[.agg (arr 9 fun _ => 0), .int .i64 17]) (results_pair rfl _ _ g1 (fun _ => 0) _ rfl rfl hR.out) rfl ⟨rfl, hBB.out⟩
              · have HA2 := Lib.hid (show ∀ k, k < n + 1 → inb (F k) = true from fun k hk => by
                  rcases Nat.lt_or_ge k n with h | h
                  · exact HAll.out k h
                  · obtain rfl : k = n := by omega
                    rw [HR2.out]; exact hin)
                rw [hin] at CR
                clear hbad hin HAll
                go_wp2_with (go_at_call 35; fail)
                (with_reducible refine (CC.out _).mono ?_)
                rintro e5 w5 ⟨rfl, hb5⟩
                have T5 := Lib.hid (HTT.out.keep hb5)
                clear hb5 HTT CC a0 a1 a2 a3 a4 a5 a6 a7 a8
                go_wp2_with (go_at_call 34; fail)
                (with_reducible refine (CR.out _).mono ?_)
                rintro e6 w6 ⟨rfl, rfl⟩
                have cn := T5.out.2.2.2.cell (j := n) (by omega)
                have fn := T5.out.2.2.2.frozen n
                have HN := Lib.hid (T5.out.part2 HG.out.1 HG.out.2.1 HG.out.2.2.2 HR2.out)
                clear T5 CR HR2
                generalize part n F n = yn at *
                go_wp2
                go_roundw
                case rel => exact ⟨j + 1, by simp, by omega, by rw [← hij.out]; exact Lib.hid ⟨HN.out, HA2.out⟩⟩
                case measure => simp [intOf]; omega
            · obtain rfl : j = 3 := by omega
              have hs := Lib.hid (show S3 w g0 g1 g2 9 22 m 9 22 y 9 22 (part (3 * (i + 1)) F) wr ∧ ∀ k, k < 3 * (i + 1) → inb (F k) = true by rw [show 3 * (i + 1) = 3 * i + 3 by omega]; exact ht.out)
              clear ht hlj hj
              go_wp2_with fail
              go_roundw
              case rel => exact ⟨i + 1, by simp, by omega, hs⟩
              case measure => simp [intOf]; omega
        · obtain rfl : i = 3 := by omega
          obtain ⟨v1, v2⟩ := HOK.out (fun k hk => hs.out.2 k (by omega))
          subst v1 v2
          clear hlt hi HC HCB HT HOK HBAD
          have h3 := hs.out.1.2.2.2.full9
          have h2 := hs.out.1.2.2.1
          obtain ⟨a0, a1, a2, a3, a4, a5, a6, a7, a8⟩ := h3.cells9
          obtain ⟨b0, b1, b2, b3, b4, b5, b6, b7, b8⟩ := h2.cells9
          obtain ⟨x0, x1, x2, x3, x4, x5, x6, x7, x8⟩ := h2.froz9
          have hR := Lib.hid (h2.set9 IM)
          have hBB := Lib.hid (bel_set9 hs.out.1.1 HG.out.2.2.1 IM)
          clear h2 h3 hs
          go_wp2
          exact bodyPost_ret (v := .tuple #[.agg (arr 9 IM), .int .i64 0]) (results_pair rfl _ _ g1 IM _ rfl rfl hR.out) rfl ⟨rfl, hBB.out⟩
  · rw [ea] at CK
    rw [(inv_bad oa).1, (inv_bad oa).2, ← hy0]
    clear ea oa hF hy0
    go_enter Try.func20, Try.ntmps20
    go_wp2_with (go_at_call 12; fail)
    rw [zeros9 F]
    generalize ((w.alloc (.cells #[.int .i64 (m 0), .int .i64 (m 1), .int .i64 (m 2), .int .i64 (m 3), .int .i64 (m 4), .int .i64 (m 5), .int .i64 (m 6), .int .i64 (m 7), .int .i64 (m 8)] 22)).alloc (.cells (arr 9 (part 0 F)) 22)).alloc (.cells (arr 9 (part 0 F)) 22) = V at *
    rw [← e2, ← e1, ← e0]
    rw [hy] at HS
    clear e2 e1 e0 hy
    (with_reducible refine (CK.out _).mono ?_)
    rintro e1 w1 ⟨rfl, hb1⟩
    replace HS := Lib.hid (HS.out.keep hb1)
    clear hb1 CK
    have h3 := HS.out.2.2.2
    have h2 := HS.out.2.2.1
    obtain ⟨a0, a1, a2, a3, a4, a5, a6, a7, a8⟩ := h3.cells9
    obtain ⟨b0, b1, b2, b3, b4, b5, b6, b7, b8⟩ := h2.cells9
    obtain ⟨x0, x1, x2, x3, x4, x5, x6, x7, x8⟩ := h2.froz9
    have hR := Lib.hid (h2.set9 y)
    have hBB := Lib.hid (bel_set9 HS.out.1 HG.out.2.2.1 y)
    clear h2 h3 HS
    go_wp2
    exact bodyPost_ret (v := .tuple #[.agg (arr 9 y), .int .i64 2]) (results_pair rfl _ _ g1 y _ rfl rfl hR.out) rfl ⟨rfl, hBB.out⟩

end Go.Proofs.Ytmafmpgpaioniaa
