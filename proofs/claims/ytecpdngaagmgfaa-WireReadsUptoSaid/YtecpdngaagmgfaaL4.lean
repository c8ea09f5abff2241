import Derived.Test.YtecpdngaagmgfaaProg
import Derived.WalkKit
import Derived.WalkLawsBesides
import Derived.Outline
import Derived.Lib.Walk
import Derived.Deep.QuietTactic
import Derived.BigQuiet
import Derived.RowKit3
import Derived.Deep.LoopGhost
import Derived.Great.Walk
import Derived.Great.BuildSlice
import Derived.Laws.Rows
import Derived.Laws.Tables
import Derived.Laws.CopyOwn
import Derived.Lib.Hide
import Derived.Handy
import Derived.Deep.Onto
import Derived.WalkSpells
import Derived.Deep.RegionHeld3
import Derived.Test.YtecpdngaagmgfaaA1
import Derived.Test.YtecpdngaagmgfaaA2
import Derived.Test.YtecpdngaagmgfaaA3
import Derived.Test.YtecpdngaagmgfaaB2
import Derived.Test.YtecpdngaagmgfaaB3
import Derived.Test.YtecpdngaagmgfaaB4
import Derived.Test.YtecpdngaagmgfaaC1
import Derived.Test.YtecpdngaagmgfaaC2
import Derived.Test.YtecpdngaagmgfaaC3
import Derived.Test.YtecpdngaagmgfaaC4
import Derived.Test.YtecpdngaagmgfaaC5
import Derived.Test.YtecpdngaagmgfaaC6
import Derived.Test.YtecpdngaagmgfaaC7
import Derived.Test.YtecpdngaagmgfaaD1
import Derived.Test.YtecpdngaagmgfaaD2
import Derived.Test.YtecpdngaagmgfaaD3
import Derived.Test.YtecpdngaagmgfaaD4
import Derived.Test.YtecpdngaagmgfaaD5
import Derived.Test.YtecpdngaagmgfaaE1
import Derived.Test.YtecpdngaagmgfaaE2
import Derived.Test.YtecpdngaagmgfaaL20
import Derived.Test.YtecpdngaagmgfaaL5
namespace Go.Proofs.Ytecpdngaagmgfaa
open Go.RowKit
set_option maxHeartbeats 400000
set_option linter.unusedVariables false

set_option maxHeartbeats 4000000 in
theorem l4 (S : List UInt8) (v : Value) (L : List (Int × Int)) (w : World) (hS : S.length ≤ 17592186044000) (h : argT w w.heap.size v L) (hL : allT L) (hlen : L.length ≤ 9223372036854775807) :
    Calls Try.prog 4 #[.string (mkS S), v] w fun e w' => e = .returned (.bool true) ∧ Below w.heap.size w w' := by
  obtain ⟨ao, cap, rfl, h⟩ := h
  obtain ⟨n, hn⟩ : ∃ n, L.length = n := ⟨_, rfl⟩
  unfold allT at hL
  rw [hn] at h hL hlen ⊢
  have H := Lib.hid h
  have HL := Lib.hid hL
  have HS := Lib.hid hS
  have N1 := Lib.hid (c18 S w (by omega))
  have N2 := Lib.hid (fun W => s19 S W (by omega))
  clear h hL hn hS
  go_enter Try.func4, Try.ntmps4
  go_wp2_with (go_at_call 18; fail)
  (with_reducible refine N1.out.mono ?_)
  rintro e1 w1 ⟨_, rfl, rfl, hr1, hg1⟩
  have hB1 := bel0 (Below.refl w.heap.size w) hg1
  have hp1 : w.heap.size < w1.heap.size := rdr_blk hr1 _ rfl
  clear hg1 N1
  go_wp2_with (go_at_call 19; fail)
  (with_reducible refine (N2.out _).mono ?_)
  rintro e1 w2 ⟨_, rfl, rfl, hx2, hg2⟩
  have hB2 := bel0 hB1 hg2
  have hr2 := rdr_keep hr1 hg2 (fun p _ e => by cases e)
  have hp2 : w1.heap.size < w2.heap.size := rds_blk hx2 _ rfl
  generalize w1.heap.size = p2 at *
  clear hr1 hg2 hB1 N2
  go_wp2
  go_loopw [7] (fun i W => ∃ (k : Nat) (st : Rd), k ≤ n ∧ i = .int .i64 (k : Int) ∧ Below w.heap.size w W ∧ rdr W (.pointer (some ⟨w.heap.size, 0, none⟩)) st ∧ rds W (.pointer (some ⟨p2, 0, none⟩)) st ∧ Hid (st.1.length ≤ 17592186044000)) (fun i _ => (n - (intOf i).toNat))
  case atStart => exact ⟨0, (S, 0), by omega, rfl, hB2, hr2, hx2, HS⟩
  case round =>
    clear hB2 hr2 hx2
    obtain ⟨k, st, hk, rfl, hB, hr, hx, hst⟩ := hrel
    by_cases hlt : k < n
    · obtain ⟨g, o, rfl, hg, hc⟩ := H.out (by omega)
      obtain ⟨hc0, hc1⟩ := hc k hlt
      obtain ⟨b0, b1⟩ := HL.out k hlt
      generalize L.getD k (0, 0) = T at *
      obtain ⟨x, y⟩ := T
      simp only at hc0 hc1 b0 b1
      have hlt' : (k : Int) < (n : Int) := by omega
      have f0 := (hB.cell (p := ⟨g, o + k * 2, none⟩) hg).trans hc0
      have f1 := (hB.cell (p := ⟨g, o + k * 2 + 1, none⟩) hg).trans hc1
      have C2 := Lib.hid (c20 _ _ st x y _ b0 b1 hr hx (fun p e e2 => by simp [pblk] at e e2; omega) hst.out)
      have kk : IntKind.i64.wrap ((k : Int) + 1) = (k : Int) + 1 := IntWalk.i64_in _ (by omega)
      have HB := Lib.hid hB
      clear hB hr hx hc hc0 hc1
      go_wp2_with (go_at_call 20; fail)
      (with_reducible refine C2.out.mono ?_)
      rintro e1 w3 ⟨rfl, hr3, hx3, t2⟩
      have hB3 := belT HB.out t2 (fun k e => by simp [pblk] at e; omega) (fun k e => by simp [pblk] at e; omega)
      have hst3 : Hid ((stepR x y st).1.length ≤ 17592186044000) := Lib.hid (Nat.le_trans (stepR_len x y st) hst.out)
      clear t2 f0 f1 C2 HB
      go_wp2
      go_roundw
      case rel => exact ⟨k + 1, _, by omega, by simp, hB3, hr3, hx3, hst3⟩
      case measure => simp [intOf]; omega
    · obtain rfl : n = k := by omega
      have LR := Lib.hid (fun W h => e21 (.pointer (some ⟨w.heap.size, 0, none⟩)) st W h)
      have LX := Lib.hid (fun W h => s22 (.pointer (some ⟨p2, 0, none⟩)) st W h)
      have ER := Lib.hid (fun W h => e23 (.pointer (some ⟨w.heap.size, 0, none⟩)) st W h)
      have EX := Lib.hid (fun W h => s24 (.pointer (some ⟨p2, 0, none⟩)) st W h)
      have DR := Lib.hid (fun W h => e25 (.pointer (some ⟨w.heap.size, 0, none⟩)) st W h)
      have DX := Lib.hid (fun W h => s26 (.pointer (some ⟨p2, 0, none⟩)) st W h)
      have HR := Lib.hid hr
      have HX := Lib.hid hx
      have HB := Lib.hid hB
      clear hr hB hx
      go_wp2_with (go_at_call 21; fail)
      (with_reducible refine (LR.out _ HR.out).mono ?_)
      rintro e1 wa ⟨rfl, rfl⟩
      go_wp2_with (go_at_call 22; fail)
      (with_reducible refine (LX.out _ HX.out).mono ?_)
      rintro e1 wa ⟨rfl, qa, rfl⟩
      go_wp2_with (go_at_call 23; fail)
      (with_reducible refine (ER.out _ (rdr_drewN HR.out qa)).mono ?_)
      rintro e1 wa ⟨rfl, rfl⟩
      go_wp2_with (go_at_call 24; fail)
      (with_reducible refine (EX.out _ (rds_drew HX.out qa)).mono ?_)
      rintro e1 wa ⟨rfl, rfl⟩
      go_wp2_with (go_at_call 25; fail)
      (with_reducible refine (DR.out _ (rdr_drewN HR.out qa)).mono ?_)
      rintro e1 wa ⟨rfl, rfl⟩
      go_wp2_with (go_at_call 26; fail)
      (with_reducible refine (DX.out _ (rds_drew HX.out qa)).mono ?_)
      rintro e1 wa ⟨rfl, qb, rfl⟩
      go_wp2_with (go_at_call 17; fail)
      (with_reducible refine (c17 _).mono ?_)
      rintro e1 w1 ⟨rfl, hb⟩
      have HF := Lib.hid (belB (belD HB.out (qa + qb)) hb)
      clear hb
      go_wp2
      go_ret
      exact ⟨rfl, HF.out⟩

end Go.Proofs.Ytecpdngaagmgfaa
