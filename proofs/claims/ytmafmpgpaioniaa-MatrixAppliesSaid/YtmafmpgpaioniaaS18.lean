import Derived.Test.YtmafmpgpaioniaaProg
import Derived.WalkKit
import Derived.WalkLawsBesides
import Derived.Outline
import Derived.Lib.Walk
import Derived.Deep.QuietTactic
import Derived.BigQuiet
import Derived.RowKit3
import Derived.Deep.LoopGhost
import Derived.Laws.Rows
import Derived.Laws.Tables
import Derived.Laws.CopyOwn
import Derived.Lib.Hide
import Derived.Handy
import Derived.Deep.Onto
import Derived.IntWalk
import Derived.Deep.WholeRow
import Derived.Laws.ResultCell
import Derived.Test.YtmafmpgpaioniaaC17
import Derived.Test.YtmafmpgpaioniaaS12
namespace Go.Proofs.Ytmafmpgpaioniaa
open Go.RowKit
set_option maxHeartbeats 400000
set_option linter.unusedVariables false

def sumF (m v : Nat → Int) (i : Nat) : Nat → Int
  | 0 => 0
  | k + 1 => sumF m v i k + m (3 * i + k) * clv (v k)
theorem sumF_b {m v : Nat → Int} (h : ∀ j, j < 9 → -1048576 ≤ m j ∧ m j ≤ 1048576) (i : Nat) (hi : i < 3) : ∀ k : Nat, k ≤ 3 → -(k : Int) * 1125899906842624 ≤ sumF m v i k ∧ sumF m v i k ≤ (k : Int) * 1125899906842624
  | 0, _ => by unfold sumF; omega
  | k + 1, hk => by
    have h1 := sumF_b (v := v) h i hi k (by omega)
    have h2 := prod_in (h (3 * i + k) (by omega)) (clv_b (v k))
    unfold sumF
    omega
theorem sumF_dot (m v : Nat → Int) (i : Nat) : sumF m v i 3 = dot (rowF m i) (fun k => clv (v k)) := by
  unfold sumF sumF sumF sumF dot rowF
  dsimp only
  omega

set_option maxHeartbeats 8000000 in
set_option maxRecDepth 100000 in
theorem s18 (m v : Nat → Int) (w : World) :
    Calls Try.prog 18 #[.agg (arr 9 m), .agg (arr 3 v)] w fun e w' => e = .returned (.agg (arr 3 (appM m v))) ∧ Below w.heap.size w w' := by
  have CK := Lib.hid (show ∀ W : World, Calls Try.prog 12 #[.agg #[.int .i64 (m 0), .int .i64 (m 1), .int .i64 (m 2), .int .i64 (m 3), .int .i64 (m 4), .int .i64 (m 5), .int .i64 (m 6), .int .i64 (m 7), .int .i64 (m 8)]] W fun e w' => e = .returned (.int .i64 (ckM m)) ∧ Below W.heap.size W w' from fun W => s12 m W)
  obtain ⟨F, hF⟩ : ∃ F, appF m v = F := ⟨_, rfl⟩
  have HS := Lib.hid (S4.new w 9 3 3 3 22 29 29 29 m v (part 0 F) (part 0 F))
  obtain ⟨g0, e0⟩ : ∃ g, g = w.heap.size := ⟨_, rfl⟩
  obtain ⟨g1, e1⟩ : ∃ g, g = w.heap.size + 1 := ⟨_, rfl⟩
  obtain ⟨g2, e2⟩ : ∃ g, g = w.heap.size + 1 + 1 := ⟨_, rfl⟩
  obtain ⟨g3, e3⟩ : ∃ g, g = w.heap.size + 1 + 1 + 1 := ⟨_, rfl⟩
  have HG := Lib.hid (show g0 ≠ g3 ∧ g1 ≠ g3 ∧ g2 ≠ g3 ∧ w.heap.size ≤ g3 ∧ w.heap.size ≤ g2 by omega)
  rw [← e3, ← e2, ← e1, ← e0, ← arr9 m, ← arr3 v] at HS
  obtain ⟨y, hy⟩ : ∃ y, part 0 F = y := ⟨_, rfl⟩
  have HY := Lib.hid hy
  rw [← arr9 m, ← arr3 v]
  rcases @ckM_eq m with ⟨ea, oa⟩ | ⟨ea, oa⟩
  · rw [app_ok oa, hF]
    have RA := Lib.hid (okM_at oa)
    rw [ea] at CK
    clear ea oa
    go_enter Try.func18, Try.ntmps18
    go_wp2_with (go_at_call 12; fail)
    rw [zeros3 F]
    generalize (((w.alloc (.cells #[.int .i64 (m 0), .int .i64 (m 1), .int .i64 (m 2), .int .i64 (m 3), .int .i64 (m 4), .int .i64 (m 5), .int .i64 (m 6), .int .i64 (m 7), .int .i64 (m 8)] 22)).alloc (.cells #[.int .i64 (v 0), .int .i64 (v 1), .int .i64 (v 2)] 29)).alloc (.cells (arr 3 (part 0 F)) 29)).alloc (.cells (arr 3 (part 0 F)) 29) = V at *
    rw [← e3, ← e2, ← e1, ← e0]
    rw [hy] at HS
    clear e0 e1 e2 e3 hy
    (with_reducible refine (CK.out _).mono ?_)
    rintro e1 w1 ⟨rfl, hb1⟩
    replace HS := Lib.hid (HS.out.keep hb1)
    clear hb1 CK
    have HT := Lib.hid (show ∀ i, F i = dvi (sumF m v i 3) 65536 from fun i => by rw [← hF, sumF_dot]; rfl)
    have HSB := Lib.hid (fun i hi k hk => @sumF_b m v RA.out i hi k hk)
    clear hF
    go_wp2_with fail
    go_loopw [6] (fun ii W => ∃ i : Nat, ii = .int .i64 (i : Int) ∧ i ≤ 3 ∧ Hid (S4 w g0 g1 g2 g3 9 22 m 3 29 v 3 29 y 3 29 (part (i) F) W)) (fun ii _ => (3 - (intOf ii).toNat))
    case atStart => exact ⟨0, rfl, by omega, Lib.hid (show S4 w g0 g1 g2 g3 9 22 m 3 29 v 3 29 y 3 29 (part 0 F) w1 by rw [HY.out]; exact HS.out)⟩
    case round =>
      obtain ⟨i, rfl, hi, hs⟩ := hrel
      clear HS
      by_cases hlt : i < 3
      · have ki : IntKind.i64.wrap ((i : Int) + 1) = (i : Int) + 1 := IntWalk.i64_in _ (by omega)
        have i3 : (i : Int) < 3 := by omega
        obtain ⟨p0, hp0⟩ : ∃ p, p = 3 * i := ⟨_, rfl⟩
        have f0 : IntKind.i64.wrap (3 * (i : Int)) = (p0 : Int) := by rw [IntWalk.i64_in _ (by omega)]; omega
        have HP := Lib.hid hp0
        clear hp0
        go_wp2
        go_loopw [7, 8] (fun ss kk W => ∃ k : Nat, kk = .int .i64 (k : Int) ∧ k ≤ 3 ∧ ss = .int .i64 (sumF m v i k) ∧ Hid (S4 w g0 g1 g2 g3 9 22 m 3 29 v 3 29 y 3 29 (part (i) F) W)) (fun _ kk _ => (3 - (intOf kk).toNat))
        case atStart => exact ⟨0, rfl, by omega, rfl, hs⟩
        case round =>
          obtain ⟨k, rfl, hk, rfl, ht⟩ := hrel
          clear hs
          by_cases hlk : k < 3
          · obtain ⟨n, hn⟩ : ∃ n, n = p0 + k := ⟨_, rfl⟩
            have kk : IntKind.i64.wrap ((k : Int) + 1) = (k : Int) + 1 := IntWalk.i64_in _ (by omega)
            have f1 : IntKind.i64.wrap ((p0 : Int) + (k : Int)) = (n : Int) := by have := HP.out; rw [IntWalk.i64_in _ (by omega)]; omega
            have hpp := HP.out
            have n9 : (n : Int) < 9 := by omega
            have k3 : (k : Int) < 3 := by omega
            have cm := ht.out.2.1.cell (j := n) (by omega)
            have cv := ht.out.2.2.1.cell (j := k) hlk
            have b1 := HSB.out i hlt k hk
            have b2 := prod_in (RA.out n (by omega)) (clv_b (v k))
            have e5 : sumF m v i (k + 1) = sumF m v i k + m n * clv (v k) := by rw [sumF, hn, hpp]
            have hm : min 1073741824 (max (v k) (-1073741824)) = clv (v k) := rfl
            have hm2 : min (max (v k) (-1073741824)) 1073741824 = clv (v k) := by unfold clv; omega
            have HTT := Lib.hid (fun q => ht.out.keep (bel_drewN q))
            have E5 := Lib.hid e5
            clear ht hn hpp RA HSB HT e5
            generalize sumF m v i k = s at *
            obtain ⟨s', hs'⟩ : ∃ s', sumF m v i (k + 1) = s' := ⟨_, rfl⟩
            rw [hs'] at E5
            have HS' := Lib.hid hs'
            clear hs'
            generalize m n = mn at *
            generalize clv (v k) = c at *
            generalize v k = vk at *
            obtain ⟨z, hz⟩ : ∃ z, z = mn * c := ⟨_, rfl⟩
            have w1 : IntKind.i64.wrap (mn * c) = z := by rw [hz]; exact IntWalk.i64_in _ (by omega)
            rw [← hz] at b2
            have w2 : IntKind.i64.wrap (s + z) = s' := by rw [E5.out, ← hz]; exact IntWalk.i64_in _ (by omega)
            clear hz b1 b2 E5
            go_wp2_with fail
            go_quiet (fail)
            go_wp2
            go_roundw
            case rel => exact ⟨k + 1, by simp, by omega, by rw [HS'.out], Lib.hid (HTT.out _)⟩
            case measure => simp [intOf]; omega
          · obtain rfl : k = 3 := by omega
            have b1 := HSB.out i hlt 3 (by omega)
            have hT := HT.out i
            have CD := Lib.hid (fun W => t15 (sumF m v i 3) 65536 W (by omega) (by omega) (by omega) (by omega))
            rw [← hT] at CD
            have ht5 := Lib.hid ht.out
            clear ht hlk hk hT b1 HT HSB RA
            generalize sumF m v i 3 = s at *
            rw [show ((3 : Nat) : Int) = 3 from rfl]
            go_wp2_with (go_at_call 28; fail)
            (with_reducible refine (CD.out _).mono ?_)
            rintro e6 w6 ⟨rfl, q, rfl⟩
            have cn := ht5.out.2.2.2.2.cell hlt
            have fn := ht5.out.2.2.2.2.frozen i
            have HG' := HG.out
            have HN := Lib.hid ((ht5.out.keep (bel_drewN q)).part3 HG'.1 HG'.2.1 HG'.2.2.1 HG'.2.2.2.1 (show F i = F i from rfl))
            clear ht5 HG' CD
            generalize part i F i = yi at *
            generalize F i = fi at *
            go_wp2
            go_roundw
            case rel => exact ⟨i + 1, by simp, by omega, HN⟩
            case measure => simp [intOf]; omega
      · obtain rfl : i = 3 := by omega
        have h3 := hs.out.2.2.2.2.full3
        have h2 := hs.out.2.2.2.1
        obtain ⟨a0, a1, a2⟩ := h3.cells3
        obtain ⟨b0, b1, b2⟩ := h2.cells3
        obtain ⟨d0, d1, d2⟩ := h2.froz3
        have hR := Lib.hid (h2.set3 F)
        have hB := Lib.hid (bel_set3 hs.out.1 HG.out.2.2.2.2 F)
        clear h2 h3 hlt hi hs HT HSB RA
        go_wp2
        exact bodyPost_ret (v := .agg (arr 3 F)) (results_cell_row rfl _ _ g2 29 (arr 3 F) (0, 0) _ rfl hR.out Try.underlying29 rfl (row29 F)) rfl ⟨rfl, hB.out⟩
  · rw [app_bad oa F, hy]
    rw [ea] at CK
    clear ea oa hF
    go_enter Try.func18, Try.ntmps18
    go_wp2_with (go_at_call 12; fail)
    rw [zeros3 F]
    generalize (((w.alloc (.cells #[.int .i64 (m 0), .int .i64 (m 1), .int .i64 (m 2), .int .i64 (m 3), .int .i64 (m 4), .int .i64 (m 5), .int .i64 (m 6), .int .i64 (m 7), .int .i64 (m 8)] 22)).alloc (.cells #[.int .i64 (v 0), .int .i64 (v 1), .int .i64 (v 2)] 29)).alloc (.cells (arr 3 (part 0 F)) 29)).alloc (.cells (arr 3 (part 0 F)) 29) = V at *
    rw [← e3, ← e2, ← e1, ← e0]
    rw [hy] at HS
    clear e0 e1 e2 e3 hy
    (with_reducible refine (CK.out _).mono ?_)
    rintro e1 w1 ⟨rfl, hb1⟩
    replace HS := Lib.hid (HS.out.keep hb1)
    clear hb1 CK
    have h3 := HS.out.2.2.2.2
    have h2 := HS.out.2.2.2.1
    obtain ⟨a0, a1, a2⟩ := h3.cells3
    obtain ⟨b0, b1, b2⟩ := h2.cells3
    obtain ⟨d0, d1, d2⟩ := h2.froz3
    have hR := Lib.hid (h2.set3 y)
    have hB := Lib.hid (bel_set3 HS.out.1 HG.out.2.2.2.2 y)
    clear h2 h3 
    go_wp2
    exact bodyPost_ret (v := .agg (arr 3 y)) (results_cell_row rfl _ _ g2 29 (arr 3 y) (0, 0) _ rfl hR.out Try.underlying29 rfl (row29 y)) rfl ⟨rfl, hB.out⟩

end Go.Proofs.Ytmafmpgpaioniaa
