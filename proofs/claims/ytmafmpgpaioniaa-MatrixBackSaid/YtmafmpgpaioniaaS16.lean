import Derived.Test.YtmafmpgpaioniaaProg
import Derived.WalkKit
import Derived.WalkLawsBesides
import Derived.Outline
import Derived.Lib.Walk
import Derived.Deep.QuietTactic
import Derived.BigQuiet
import Derived.RowKit3
import Derived.Deep.LoopGhost
import Derived.Laws.Rows
import Derived.Laws.Tables
import Derived.Laws.CopyOwn
import Derived.Lib.Hide
import Derived.Handy
import Derived.Deep.Onto
import Derived.IntWalk
import Derived.Deep.WholeRow
import Derived.Laws.ResultCell
import Derived.Test.YtmafmpgpaioniaaA2
namespace Go.Proofs.Ytmafmpgpaioniaa
open Go.RowKit
set_option maxHeartbeats 400000
set_option linter.unusedVariables false

theorem tur_at (m : Nat → Int) {i j : Nat} (hi : i < 3) (hj : j < 3) : turF m (3 * i + j) = m (3 * j + i) := by
  unfold turF
  congr 1
  omega
set_option maxHeartbeats 8000000 in
set_option maxRecDepth 100000 in
theorem s16 (m : Nat → Int) (w : World) :
    Calls Try.prog 16 #[.agg (arr 9 m)] w fun e w' => e = .returned (.agg (arr 9 (turF m))) ∧ Below w.heap.size w w' := by
  have HT := Lib.hid (fun i j hi hj => @tur_at m i j hi hj)
  obtain ⟨F, hF⟩ : ∃ F, turF m = F := ⟨_, rfl⟩
  rw [hF] at HT ⊢
  clear hF
  have HS := Lib.hid (S3.new w 9 9 9 22 22 22 m (part 0 F) (part 0 F))
  go_enter Try.func16, Try.ntmps16
  go_wp2
  rw [zeros9 F]
  generalize ((w.alloc (.cells (arr 9 m) 22)).alloc (.cells (arr 9 (part 0 F)) 22)).alloc (.cells (arr 9 (part 0 F)) 22) = V at *
  obtain ⟨g0, e0⟩ : ∃ g, g = w.heap.size := ⟨_, rfl⟩
  obtain ⟨g1, e1⟩ : ∃ g, g = w.heap.size + 1 := ⟨_, rfl⟩
  obtain ⟨g2, e2⟩ : ∃ g, g = w.heap.size + 1 + 1 := ⟨_, rfl⟩
  have HG := Lib.hid (show g0 ≠ g2 ∧ g1 ≠ g2 ∧ w.heap.size ≤ g2 ∧ w.heap.size ≤ g1 by omega)
  rw [← e2, ← e1, ← e0] at HS ⊢
  clear e0 e1 e2
  generalize arr 9 m = M at *
  go_loopw [4] (fun ii W => ∃ i : Nat, ii = .int .i64 (i : Int) ∧ i ≤ 3 ∧ Hid (S3 w g0 g1 g2 9 22 m 9 22 (part 0 F) 9 22 (part (3 * i) F) W)) (fun ii _ => (3 - (intOf ii).toNat))
  case atStart => exact ⟨0, rfl, by omega, HS⟩
  case round =>
    obtain ⟨i, rfl, hi, hs⟩ := hrel
    clear HS
    by_cases hlt : i < 3
    · have ki : IntKind.i64.wrap ((i : Int) + 1) = (i : Int) + 1 := IntWalk.i64_in _ (by omega)
      go_wp2
      go_loopw [5] (fun jj W => ∃ j : Nat, jj = .int .i64 (j : Int) ∧ j ≤ 3 ∧ Hid (S3 w g0 g1 g2 9 22 m 9 22 (part 0 F) 9 22 (part (3 * i + j) F) W)) (fun jj _ => (3 - (intOf jj).toNat))
      case atStart => exact ⟨0, rfl, by omega, hs⟩
      case round =>
        obtain ⟨j, rfl, hj, ht⟩ := hrel
        clear hs
        by_cases hlj : j < 3
        · obtain ⟨n, hn⟩ : ∃ n, n = 3 * i + j := ⟨_, rfl⟩
          obtain ⟨q, hq⟩ : ∃ q, q = 3 * j + i := ⟨_, rfl⟩
          obtain ⟨p, hp⟩ : ∃ p, p = 3 * i := ⟨_, rfl⟩
          obtain ⟨r, hr⟩ : ∃ r, r = 3 * j := ⟨_, rfl⟩
          have f0 : IntKind.i64.wrap (3 * (i : Int)) = (p : Int) := by rw [IntWalk.i64_in _ (by omega)]; omega
          have f1 : IntKind.i64.wrap (3 * (j : Int)) = (r : Int) := by rw [IntWalk.i64_in _ (by omega)]; omega
          have f2 : IntKind.i64.wrap ((p : Int) + (j : Int)) = (n : Int) := by rw [IntWalk.i64_in _ (by omega)]; omega
          have f3 : IntKind.i64.wrap ((r : Int) + (i : Int)) = (q : Int) := by rw [IntWalk.i64_in _ (by omega)]; omega
          have n9 : (n : Int) < 9 := by omega
          have q9 : (q : Int) < 9 := by omega
          have kj : IntKind.i64.wrap ((j : Int) + 1) = (j : Int) + 1 := IntWalk.i64_in _ (by omega)
          have hx := HT.out i j hlt hlj
          rw [← hn, ← hq] at hx
          rw [← hn] at ht
          have cq := ht.out.2.1.cell (j := q) (by omega)
          have cn := ht.out.2.2.2.cell (j := n) (by omega)
          have fn := ht.out.2.2.2.frozen n
          have HN := Lib.hid (ht.out.part2 HG.out.1 HG.out.2.1 HG.out.2.2.1 hx)
          have hij := Lib.hid (show n + 1 = 3 * i + (j + 1) by omega)
          clear hn hq hp hr hx ht
          generalize part n F n = y at *
          go_wp2
          go_roundw
          case rel => exact ⟨j + 1, by simp, by omega, by rw [← hij.out]; exact Lib.hid HN.out⟩
          case measure => simp [intOf]; omega
        · obtain rfl : j = 3 := by omega
          have hs := Lib.hid (show S3 w g0 g1 g2 9 22 m 9 22 (part 0 F) 9 22 (part (3 * (i + 1)) F) wr by rw [show 3 * (i + 1) = 3 * i + 3 by omega]; exact ht.out)
          clear ht hlj hj
          go_wp2
          go_roundw
          case rel => exact ⟨i + 1, by simp, by omega, hs⟩
          case measure => simp [intOf]; omega
    · obtain rfl : i = 3 := by omega
      have h2 := hs.out.2.2.2.full9
      have h1 := hs.out.2.2.1
      obtain ⟨a0, a1, a2, a3, a4, a5, a6, a7, a8⟩ := h2.cells9
      obtain ⟨b0, b1, b2, b3, b4, b5, b6, b7, b8⟩ := h1.cells9
      obtain ⟨d0, d1, d2, d3, d4, d5, d6, d7, d8⟩ := h1.froz9
      have hR := Lib.hid (h1.set9 F)
      have hB := Lib.hid (bel_set9 hs.out.1 HG.out.2.2.2 F)
      clear hlt hi hs h2 h1 HT
      generalize part 0 F = y at *
      go_wp2
      exact bodyPost_ret (v := .agg (arr 9 F)) (results_cell_row rfl _ _ g1 22 (arr 9 F) (0, 0) _ rfl hR.out Try.underlying22 rfl (row22 F)) rfl ⟨rfl, hB.out⟩

end Go.Proofs.Ytmafmpgpaioniaa
