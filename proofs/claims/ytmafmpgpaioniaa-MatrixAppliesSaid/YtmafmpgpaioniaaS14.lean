import Derived.Test.YtmafmpgpaioniaaProg
import Derived.WalkKit
import Derived.WalkLawsBesides
import Derived.Outline
import Derived.Lib.Walk
import Derived.Deep.QuietTactic
import Derived.BigQuiet
import Derived.RowKit3
import Derived.Deep.LoopGhost
import Derived.Laws.Rows
import Derived.Laws.Tables
import Derived.Laws.CopyOwn
import Derived.Lib.Hide
import Derived.Handy
import Derived.Deep.Onto
import Derived.IntWalk
import Derived.Deep.WholeRow
import Derived.Laws.ResultCell
import Derived.Test.YtmafmpgpaioniaaA3
import Derived.Test.YtmafmpgpaioniaaS12
import Derived.Test.YtmafmpgpaioniaaQT
namespace Go.Proofs.Ytmafmpgpaioniaa
open Go.RowKit
set_option maxHeartbeats 400000
set_option linter.unusedVariables false

set_option maxHeartbeats 8000000 in
set_option maxRecDepth 100000 in
theorem s14 (a b : Nat → Int) (w : World) :
    Calls Try.prog 14 #[.agg (arr 9 a), .agg (arr 9 b)] w fun e w' => e = .returned (.agg (arr 9 (mulM a b))) ∧ Below w.heap.size w w' := by
  obtain ⟨F, hF⟩ : ∃ F, mulF a b = F := ⟨_, rfl⟩
  have HT := Lib.hid (fun i j hi hj => @mul_at a b i j hi hj)
  rw [hF] at HT
  have hM : mulM a b = if okM a = true ∧ okM b = true then F else part 0 F := by unfold mulM; rw [hF, part_zero]
  rw [hM]
  clear hM hF
  have CA := Lib.hid (show ∀ W : World, Calls Try.prog 12 #[.agg #[.int .i64 (a 0), .int .i64 (a 1), .int .i64 (a 2), .int .i64 (a 3), .int .i64 (a 4), .int .i64 (a 5), .int .i64 (a 6), .int .i64 (a 7), .int .i64 (a 8)]] W fun e w' => e = .returned (.int .i64 (ckM a)) ∧ Below W.heap.size W w' from fun W => s12 a W)
  have CB := Lib.hid (show ∀ W : World, Calls Try.prog 12 #[.agg #[.int .i64 (b 0), .int .i64 (b 1), .int .i64 (b 2), .int .i64 (b 3), .int .i64 (b 4), .int .i64 (b 5), .int .i64 (b 6), .int .i64 (b 7), .int .i64 (b 8)]] W fun e w' => e = .returned (.int .i64 (ckM b)) ∧ Below W.heap.size W w' from fun W => s12 b W)
  have HS := Lib.hid (S4.new w 9 9 9 9 22 22 22 22 a b (part 0 F) (part 0 F))
  obtain ⟨g0, e0⟩ : ∃ g, g = w.heap.size := ⟨_, rfl⟩
  obtain ⟨g1, e1⟩ : ∃ g, g = w.heap.size + 1 := ⟨_, rfl⟩
  obtain ⟨g2, e2⟩ : ∃ g, g = w.heap.size + 1 + 1 := ⟨_, rfl⟩
  obtain ⟨g3, e3⟩ : ∃ g, g = w.heap.size + 1 + 1 + 1 := ⟨_, rfl⟩
  have HG := Lib.hid (show g0 ≠ g3 ∧ g1 ≠ g3 ∧ g2 ≠ g3 ∧ w.heap.size ≤ g3 ∧ w.heap.size ≤ g2 by omega)
  rw [← e3, ← e2, ← e1, ← e0, ← arr9 a, ← arr9 b] at HS
  obtain ⟨y, hy⟩ : ∃ y, part 0 F = y := ⟨_, rfl⟩
  have HY := Lib.hid hy
  rw [← arr9 a, ← arr9 b]
  rcases @ckM_eq a with ⟨ea, oa⟩ | ⟨ea, oa⟩
  · rcases @ckM_eq b with ⟨eb, ob⟩ | ⟨eb, ob⟩
    · rw [if_pos ⟨oa, ob⟩]
      have RA := Lib.hid (okM_at oa)
      have RB := Lib.hid (okM_at ob)
      rw [ea] at CA
      rw [eb] at CB
      clear ea eb oa ob
      go_enter Try.func14, Try.ntmps14
      go_wp2_with (go_at_call 12; fail)
      rw [zeros9 F]
      generalize (((w.alloc (.cells #[.int .i64 (a 0), .int .i64 (a 1), .int .i64 (a 2), .int .i64 (a 3), .int .i64 (a 4), .int .i64 (a 5), .int .i64 (a 6), .int .i64 (a 7), .int .i64 (a 8)] 22)).alloc (.cells #[.int .i64 (b 0), .int .i64 (b 1), .int .i64 (b 2), .int .i64 (b 3), .int .i64 (b 4), .int .i64 (b 5), .int .i64 (b 6), .int .i64 (b 7), .int .i64 (b 8)] 22)).alloc (.cells (arr 9 (part 0 F)) 22)).alloc (.cells (arr 9 (part 0 F)) 22) = V at *
      rw [← e3, ← e2, ← e1, ← e0]
      rw [hy] at HS
      clear e0 e1 e2 e3 hy
      (with_reducible refine (CA.out _).mono ?_)
      rintro e1 w1 ⟨rfl, hb1⟩
      have HS1 := Lib.hid (HS.out.keep hb1)
      clear hb1 HS CA
      obtain ⟨b0, b1, b2, b3, b4, b5, b6, b7, b8⟩ := HS1.out.2.2.1.cells9
      go_wp2_with (go_at_call 12; fail)
      (with_reducible refine (CB.out _).mono ?_)
      rintro e2 w2 ⟨rfl, hb2⟩
      have HS := Lib.hid (HS1.out.keep hb2)
      clear hb2 HS1 CB b0 b1 b2 b3 b4 b5 b6 b7 b8
      go_wp2_with fail
      go_loopw [6] (fun ii W => ∃ i : Nat, ii = .int .i64 (i : Int) ∧ i ≤ 3 ∧ Hid (S4 w g0 g1 g2 g3 9 22 a 9 22 b 9 22 y 9 22 (part (3 * i) F) W)) (fun ii _ => (3 - (intOf ii).toNat))
      case atStart => exact ⟨0, rfl, by omega, Lib.hid (show S4 w g0 g1 g2 g3 9 22 a 9 22 b 9 22 y 9 22 (part 0 F) w2 by rw [HY.out]; exact HS.out)⟩
      case round =>
        obtain ⟨i, rfl, hi, hs⟩ := hrel
        clear HS
        by_cases hlt : i < 3
        · have ki : IntKind.i64.wrap ((i : Int) + 1) = (i : Int) + 1 := IntWalk.i64_in _ (by omega)
          have i3 : (i : Int) < 3 := by omega
          go_wp2
          go_loopw [7] (fun jj W => ∃ j : Nat, jj = .int .i64 (j : Int) ∧ j ≤ 3 ∧ Hid (S4 w g0 g1 g2 g3 9 22 a 9 22 b 9 22 y 9 22 (part (3 * i + j) F) W)) (fun jj _ => (3 - (intOf jj).toNat))
          case atStart => exact ⟨0, rfl, by omega, hs⟩
          case round =>
            obtain ⟨j, rfl, hj, ht⟩ := hrel
            clear hs
            by_cases hlj : j < 3
            · obtain ⟨n, hn⟩ : ∃ n, n = 3 * i + j := ⟨_, rfl⟩
              obtain ⟨p0, hp0⟩ : ∃ p, p = 3 * i := ⟨_, rfl⟩
              obtain ⟨p1, hp1⟩ : ∃ p, p = p0 + 1 := ⟨_, rfl⟩
              obtain ⟨p2, hp2⟩ : ∃ p, p = p0 + 2 := ⟨_, rfl⟩
              obtain ⟨q1, hq1⟩ : ∃ p, p = 3 + j := ⟨_, rfl⟩
              obtain ⟨q2, hq2⟩ : ∃ p, p = 6 + j := ⟨_, rfl⟩
              have f0 : IntKind.i64.wrap (3 * (i : Int)) = (p0 : Int) := by rw [IntWalk.i64_in _ (by omega)]; omega
              have f1 : IntKind.i64.wrap ((p0 : Int) + 1) = (p1 : Int) := by rw [IntWalk.i64_in _ (by omega)]; omega
              have f2 : IntKind.i64.wrap ((p0 : Int) + 2) = (p2 : Int) := by rw [IntWalk.i64_in _ (by omega)]; omega
              have f3 : IntKind.i64.wrap ((p0 : Int) + (j : Int)) = (n : Int) := by rw [IntWalk.i64_in _ (by omega)]; omega
              have f4 : IntKind.i64.wrap (3 + (j : Int)) = (q1 : Int) := by rw [IntWalk.i64_in _ (by omega)]; omega
              have f5 : IntKind.i64.wrap (6 + (j : Int)) = (q2 : Int) := by rw [IntWalk.i64_in _ (by omega)]; omega
              have n9 : (n : Int) < 9 := by omega
              have p09 : (p0 : Int) < 9 := by omega
              have p19 : (p1 : Int) < 9 := by omega
              have p29 : (p2 : Int) < 9 := by omega
              have j9 : (j : Int) < 9 := by omega
              have q19 : (q1 : Int) < 9 := by omega
              have q29 : (q2 : Int) < 9 := by omega
              have kj : IntKind.i64.wrap ((j : Int) + 1) = (j : Int) + 1 := IntWalk.i64_in _ (by omega)
              have hx := HT.out i j hlt hlj
              rw [← hn] at hx
              rw [← hn] at ht
              have ca0 := ht.out.2.1.cell (j := p0) (by omega)
              have ca1 := ht.out.2.1.cell (j := p1) (by omega)
              have ca2 := ht.out.2.1.cell (j := p2) (by omega)
              have cb0 := ht.out.2.2.1.cell (j := j) (by omega)
              have cb1 := ht.out.2.2.1.cell (j := q1) (by omega)
              have cb2 := ht.out.2.2.1.cell (j := q2) (by omega)
              have cn := ht.out.2.2.2.2.cell (j := n) (by omega)
              have fn := ht.out.2.2.2.2.frozen n
              have ra0 := RA.out p0 (by omega)
              have ra1 := RA.out p1 (by omega)
              have ra2 := RA.out p2 (by omega)
              have rb0 := RB.out j (by omega)
              have rb1 := RB.out q1 (by omega)
              have rb2 := RB.out q2 (by omega)
              have hd : dot (rowF a i) (colF b j) = a p0 * b j + a p1 * b q1 + a p2 * b q2 := by
                unfold dot rowF colF
                rw [show 3 * i + 0 = p0 by omega, show 3 * i + 1 = p1 by omega, show 3 * i + 2 = p2 by omega, show 3 * 0 + j = j by omega, show 3 * 1 + j = q1 by omega, show 3 * 2 + j = q2 by omega]
              rw [hd] at hx
              have hij := Lib.hid (show n + 1 = 3 * i + (j + 1) by omega)
              have HG' := HG.out
              have HN := Lib.hid (fun (q : Nat) (x : Int) (hx : F n = x) => (ht.out.keep (bel_drewN q)).part3 HG'.1 HG'.2.1 HG'.2.2.1 HG'.2.2.2.1 hx)
              clear hn hp0 hp1 hp2 hq1 hq2 ht hd HG'
              generalize a p0 = x0 at *
              generalize a p1 = x1 at *
              generalize a p2 = x2 at *
              generalize b j = y0 at *
              generalize b q1 = y1 at *
              generalize b q2 = y2 at *
              have m0 := prod_in ra0 ⟨by omega, by omega⟩ (y := y0)
              have m1 := prod_in ra1 ⟨by omega, by omega⟩ (y := y1)
              have m2 := prod_in ra2 ⟨by omega, by omega⟩ (y := y2)
              obtain ⟨z0, hz0⟩ : ∃ z, z = x0 * y0 := ⟨_, rfl⟩
              obtain ⟨z1, hz1⟩ : ∃ z, z = x1 * y1 := ⟨_, rfl⟩
              obtain ⟨z2, hz2⟩ : ∃ z, z = x2 * y2 := ⟨_, rfl⟩
              have e0 : IntKind.i64.wrap (x0 * y0) = z0 := by rw [hz0]; exact IntWalk.i64_in _ (by omega)
              have e1 : IntKind.i64.wrap (x1 * y1) = z1 := by rw [hz1]; exact IntWalk.i64_in _ (by omega)
              have e2 : IntKind.i64.wrap (x2 * y2) = z2 := by rw [hz2]; exact IntWalk.i64_in _ (by omega)
              rw [← hz0] at m0 hx
              rw [← hz1] at m1 hx
              rw [← hz2] at m2 hx
              have e3 : IntKind.i64.wrap (z0 + z1) = z0 + z1 := IntWalk.i64_in _ (by omega)
              have e4 : IntKind.i64.wrap (z0 + z1 + z2) = z0 + z1 + z2 := IntWalk.i64_in _ (by omega)
              have D := Lib.hid (fun W => t15 (z0 + z1 + z2) 65536 W (by omega) (by omega) (by omega) (by omega))
              generalize dvi (z0 + z1 + z2) 65536 = d at *
              have HX := Lib.hid hx
              clear hx m0 m1 m2 hz0 hz1 hz2 ra0 ra1 ra2 rb0 rb1 rb2 RA RB HT
              generalize part n F n = yn at *
              go_wp2_with fail
              refine wp_region_quiet_tail 36 (by kernel_rfl) (by kernel_rfl) ?_
              simp only [List.take_succ_cons, List.take_zero, List.drop_succ_cons, List.drop_zero]
              repeat (quiet_step ((go_at_call 28; exact Calls.quiet_of (D.out _))))
              refine wpQuiet_nil ?_
              intro _ hw'
              obtain ⟨nq, hw''⟩ := hw'
              subst hw''
              clear ca0 ca1 ca2 cb0 cb1 cb2 f0 f1 f2 f3 f4 f5 e0 e1 e2 e3 e4
              go_wp2
              go_roundw
              case rel =>
                exact ⟨j + 1, by simp, by omega, by rw [← hij.out]; exact Lib.hid (HN.out nq d HX.out)⟩
              case measure => simp [intOf]; omega
            · obtain rfl : j = 3 := by omega
              have hs := Lib.hid (show S4 w g0 g1 g2 g3 9 22 a 9 22 b 9 22 y 9 22 (part (3 * (i + 1)) F) wr by rw [show 3 * (i + 1) = 3 * i + 3 by omega]; exact ht.out)
              clear ht hlj hj
              go_wp2_with fail
              go_roundw
              case rel => exact ⟨i + 1, by simp, by omega, hs⟩
              case measure => simp [intOf]; omega
        · obtain rfl : i = 3 := by omega
          have h3 := hs.out.2.2.2.2.full9
          have h2 := hs.out.2.2.2.1
          obtain ⟨a0, a1, a2, a3, a4, a5, a6, a7, a8⟩ := h3.cells9
          obtain ⟨b0, b1, b2, b3, b4, b5, b6, b7, b8⟩ := h2.cells9
          obtain ⟨d0, d1, d2, d3, d4, d5, d6, d7, d8⟩ := h2.froz9
          have hR := Lib.hid (h2.set9 F)
          have hB := Lib.hid (bel_set9 hs.out.1 HG.out.2.2.2.2 F)
          clear h2 h3 hlt hi hs HT RA RB
          go_wp2
          exact bodyPost_ret (v := .agg (arr 9 F)) (results_cell_row rfl _ _ g2 22 (arr 9 F) (0, 0) _ rfl hR.out Try.underlying22 rfl (row22 F)) rfl ⟨rfl, hB.out⟩
    · rw [if_neg (by rw [ob]; simp), hy]
      rw [ea] at CA
      rw [eb] at CB
      clear ea eb oa ob HT
      go_enter Try.func14, Try.ntmps14
      go_wp2_with (go_at_call 12; fail)
      rw [zeros9 F]
      generalize (((w.alloc (.cells #[.int .i64 (a 0), .int .i64 (a 1), .int .i64 (a 2), .int .i64 (a 3), .int .i64 (a 4), .int .i64 (a 5), .int .i64 (a 6), .int .i64 (a 7), .int .i64 (a 8)] 22)).alloc (.cells #[.int .i64 (b 0), .int .i64 (b 1), .int .i64 (b 2), .int .i64 (b 3), .int .i64 (b 4), .int .i64 (b 5), .int .i64 (b 6), .int .i64 (b 7), .int .i64 (b 8)] 22)).alloc (.cells (arr 9 (part 0 F)) 22)).alloc (.cells (arr 9 (part 0 F)) 22) = V at *
      rw [← e3, ← e2, ← e1, ← e0]
      rw [hy] at HS
      clear e0 e1 e2 e3 hy
      (with_reducible refine (CA.out _).mono ?_)
      rintro e1 w1 ⟨rfl, hb1⟩
      have HS1 := Lib.hid (HS.out.keep hb1)
      clear hb1 HS CA
      obtain ⟨b0, b1, b2, b3, b4, b5, b6, b7, b8⟩ := HS1.out.2.2.1.cells9
      go_wp2_with (go_at_call 12; fail)
      (with_reducible refine (CB.out _).mono ?_)
      rintro e2 w3 ⟨rfl, hb2⟩
      have HS := Lib.hid (HS1.out.keep hb2)
      clear hb2 HS1 CB b0 b1 b2 b3 b4 b5 b6 b7 b8
      have h3 := HS.out.2.2.2.2
      have h2 := HS.out.2.2.2.1
      obtain ⟨a0, a1, a2, a3, a4, a5, a6, a7, a8⟩ := h3.cells9
      obtain ⟨b0, b1, b2, b3, b4, b5, b6, b7, b8⟩ := h2.cells9
      obtain ⟨d0, d1, d2, d3, d4, d5, d6, d7, d8⟩ := h2.froz9
      have hR := Lib.hid (h2.set9 y)
      have hB := Lib.hid (bel_set9 HS.out.1 HG.out.2.2.2.2 y)
      clear h2 h3 
      go_wp2
      exact bodyPost_ret (v := .agg (arr 9 y)) (results_cell_row rfl _ _ g2 22 (arr 9 y) (0, 0) _ rfl hR.out Try.underlying22 rfl (row22 y)) rfl ⟨rfl, hB.out⟩
  · rw [if_neg (by rw [oa]; simp), hy]
    rw [ea] at CA
    clear ea oa CB HT
    go_enter Try.func14, Try.ntmps14
    go_wp2_with (go_at_call 12; fail)
    rw [zeros9 F]
    generalize (((w.alloc (.cells #[.int .i64 (a 0), .int .i64 (a 1), .int .i64 (a 2), .int .i64 (a 3), .int .i64 (a 4), .int .i64 (a 5), .int .i64 (a 6), .int .i64 (a 7), .int .i64 (a 8)] 22)).alloc (.cells #[.int .i64 (b 0), .int .i64 (b 1), .int .i64 (b 2), .int .i64 (b 3), .int .i64 (b 4), .int .i64 (b 5), .int .i64 (b 6), .int .i64 (b 7), .int .i64 (b 8)] 22)).alloc (.cells (arr 9 (part 0 F)) 22)).alloc (.cells (arr 9 (part 0 F)) 22) = V at *
    rw [← e3, ← e2, ← e1, ← e0]
    rw [hy] at HS
    clear e0 e1 e2 e3 hy
    (with_reducible refine (CA.out _).mono ?_)
    rintro e1 w1 ⟨rfl, hb1⟩
    replace HS := Lib.hid (HS.out.keep hb1)
    clear hb1 CA
    have h3 := HS.out.2.2.2.2
    have h2 := HS.out.2.2.2.1
    obtain ⟨a0, a1, a2, a3, a4, a5, a6, a7, a8⟩ := h3.cells9
    obtain ⟨b0, b1, b2, b3, b4, b5, b6, b7, b8⟩ := h2.cells9
    obtain ⟨d0, d1, d2, d3, d4, d5, d6, d7, d8⟩ := h2.froz9
    have hR := Lib.hid (h2.set9 y)
    have hB := Lib.hid (bel_set9 HS.out.1 HG.out.2.2.2.2 y)
    clear h2 h3 
    go_wp2
    exact bodyPost_ret (v := .agg (arr 9 y)) (results_cell_row rfl _ _ g2 22 (arr 9 y) (0, 0) _ rfl hR.out Try.underlying22 rfl (row22 y)) rfl ⟨rfl, hB.out⟩

end Go.Proofs.Ytmafmpgpaioniaa
