import Derived.Test.YtmekcgbljpeglaaDoorProg
import Derived.WalkKit
import Derived.WalkLawsBesides
import Derived.Outline
import Derived.Lib.Walk
import Derived.Deep.QuietTactic
import Derived.BigQuiet
import Derived.RowKit3
import Derived.Deep.LoopGhost
import Derived.Laws.Rows
import Derived.Laws.Tables
import Derived.Laws.CopyOwn
import Derived.Lib.Hide
import Derived.Handy
import Derived.Deep.Onto
import Derived.IntWalk
import Derived.Laws.BitsAllLaws
import Derived.Test.YtmekcgbljpeglaaDoorA1
import Derived.Test.YtmekcgbljpeglaaDoorA2
import Derived.Test.YtmekcgbljpeglaaDoorQT
import Derived.Test.YtmekcgbljpeglaaDoorU1
import Derived.Test.YtmekcgbljpeglaaDoorU2
import Derived.Test.YtmekcgbljpeglaaDoorU3
import Derived.Test.YtmekcgbljpeglaaDoorT1
import Derived.Test.YtmekcgbljpeglaaDoorB4
import Derived.Test.YtmekcgbljpeglaaDoorK51
import Derived.Test.YtmekcgbljpeglaaDoorK32
namespace Go.Proofs.YtmekcgbljpeglaaDoor
open Go.RowKit
set_option maxHeartbeats 400000
set_option linter.unusedVariables false

theorem k32_ret (l : List UInt8) (w : World) (hE : Err2 w) : Calls Tryd.prog 32 #[.string (mkS l)] w fun e w' => e = .returned (.tuple #[(parseF l).1.val, .int .i64 (parseF l).2]) ∧ Below w.heap.size w w' := by
  match l with
  | [] => exact k32_none _ w rfl
  | c :: t =>
    have hz : (mkS (c :: t)).size = t.length + 1 := rfl
    have h0 : 0 < (mkS (c :: t)).size := by omega
    have z1 : (((mkS (c :: t)).size : Int) == 0) = false := by rw [beq_eq_false_iff_ne]; omega
    have z2 : ((mkS (c :: t)).size == 0) = false := by rw [beq_eq_false_iff_ne]; omega
    have hx : (mkS (c :: t))[0]'h0 = c := getS (c :: t) 0 (by simp)
    by_cases hc : c = 35
    · subst hc
      have hR : (mkS (35 :: t)).extract 1 (mkS (35 :: t)).size = mkS t := by
        rw [mkS_cutN, hz]
        simp
      have hp : parseF (35 :: t) = (match hexO (compl t) with | some n => (pxOf n, 0) | none => (⟨0, 0, 0, 0⟩, 4)) := rfl
      have hT : (mkS (compl t)).size = (compl t).length := rfl
      have hl := compl_len t
      rw [hp]
      cases hh : hexO (compl t) with
      | none =>
        refine k32_bad _ (mkS t) (mkS (compl t)) 35 w h0 z1 z2 hx rfl hR hE (fun w => k51 t w) fun w hE => k50_bad _ ?_ w hE
        unfold hexO at hh
        by_cases h : (compl t).length = 0
        · exact Or.inl h
        · rw [if_neg h] at hh
          exact Or.inr ⟨by omega, by omega, by rw [mkS_data]; exact hh⟩
      | some n =>
        unfold hexO at hh
        have h : ¬ (compl t).length = 0 := by intro h; rw [if_pos h] at hh; cases hh
        rw [if_neg h] at hh
        have hb := hexs_bd _ _ _ hh
        rw [show (compl t).length = 8 by omega] at hb
        exact k32_ok _ (mkS t) (mkS (compl t)) 35 n w h0 z1 z2 hx rfl hR (by simpa using hb) (fun w => k51 t w) fun w => k50_ok _ n (by omega) (by omega) (by rw [mkS_data]; exact hh) w
    · have hp : parseF (c :: t) = (⟨0, 0, 0, 0⟩, 4) := by
        unfold parseF
        rw [if_neg (by simpa using hc)]
      rw [hp]
      refine k32_no _ c w h0 z1 z2 hx ?_
      rw [beq_eq_false_iff_ne]
      intro h
      exact hc (UInt8.toNat_inj.1 (by show c.toNat = 35; omega))

end Go.Proofs.YtmekcgbljpeglaaDoor
