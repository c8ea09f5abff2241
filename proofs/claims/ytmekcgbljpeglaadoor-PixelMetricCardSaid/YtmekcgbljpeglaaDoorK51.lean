import Derived.Test.YtmekcgbljpeglaaDoorProg
import Derived.WalkKit
import Derived.WalkLawsBesides
import Derived.Outline
import Derived.Lib.Walk
import Derived.Deep.QuietTactic
import Derived.BigQuiet
import Derived.RowKit3
import Derived.Deep.LoopGhost
import Derived.Laws.Rows
import Derived.Laws.Tables
import Derived.Laws.CopyOwn
import Derived.Lib.Hide
import Derived.Handy
import Derived.Deep.Onto
import Derived.IntWalk
import Derived.Laws.BitsAllLaws
import Derived.Test.YtmekcgbljpeglaaDoorA1
import Derived.Test.YtmekcgbljpeglaaDoorA2
import Derived.Test.YtmekcgbljpeglaaDoorQT
import Derived.Test.YtmekcgbljpeglaaDoorU1
import Derived.Test.YtmekcgbljpeglaaDoorT1
import Derived.Test.YtmekcgbljpeglaaDoorB4
namespace Go.Proofs.YtmekcgbljpeglaaDoor
open Go.RowKit
set_option maxHeartbeats 400000
set_option linter.unusedVariables false

theorem k51_3 (S R G B Y1 Y2 Y3 Y4 Y5 T : ByteArray) (w : World) (hS : S.size = 3) (x1 : S.extract 0 1 = R) (x2 : S.extract 1 2 = G) (x3 : S.extract 2 3 = B) (zr : R.size = 1) (zg : G.size = 1) (zb : B.size = 1)
    (y1 : R ++ R = Y1) (z1 : Y1.size = 2) (y2 : Y1 ++ G = Y2) (z2 : Y2.size = 3) (y3 : Y2 ++ G = Y3) (z3 : Y3.size = 4) (y4 : Y3 ++ B = Y4) (z4 : Y4.size = 5) (y5 : Y4 ++ B = Y5) (z5 : Y5.size = 6) (hT : Y5 ++ ⟨#[102, 102]⟩ = T) :
    Calls Tryd.prog 51 #[.string S] w fun e w' => e = .returned (.string T) ∧ ∃ k, w' = w.drewN k := by
  go_enter Tryd.func51, Tryd.ntmps51
  go_wp2_with fail
  go_quiet (fail)
  go_wp2
  go_ret
  exact ⟨rfl, _, rfl⟩
theorem k51_6 (S T : ByteArray) (w : World) (hS : S.size = 6) (hT : S ++ ⟨#[102, 102]⟩ = T) :
    Calls Tryd.prog 51 #[.string S] w fun e w' => e = .returned (.string T) ∧ ∃ k, w' = w.drewN k := by
  go_enter Tryd.func51, Tryd.ntmps51
  go_wp2
  go_ret
  exact ⟨rfl, 0, rfl⟩
theorem k51_8 (S : ByteArray) (w : World) (hS : S.size = 8) :
    Calls Tryd.prog 51 #[.string S] w fun e w' => e = .returned (.string S) ∧ ∃ k, w' = w.drewN k := by
  go_enter Tryd.func51, Tryd.ntmps51
  go_wp2
  go_ret
  exact ⟨rfl, 0, rfl⟩
theorem k51_0 (S : ByteArray) (w : World) (h3 : ((S.size : Int) == 3) = false) (h6 : ((S.size : Int) == 6) = false) (h8 : ((S.size : Int) == 8) = false) (n3 : (S.size == 3) = false) (n6 : (S.size == 6) = false) (n8 : (S.size == 8) = false) :
    Calls Tryd.prog 51 #[.string S] w fun e w' => e = .returned (.string ⟨#[]⟩) ∧ ∃ k, w' = w.drewN k := by
  go_enter Tryd.func51, Tryd.ntmps51
  go_wp2
  go_ret
  exact ⟨rfl, 0, rfl⟩
theorem k51 (l : List UInt8) (w : World) : Calls Tryd.prog 51 #[.string (mkS l)] w fun e w' => e = .returned (.string (mkS (compl l))) ∧ ∃ k, w' = w.drewN k := by
  by_cases h3 : l.length = 3
  · match l, h3 with
    | [r, g, b], _ =>
      exact k51_3 (mkS [r, g, b]) (mkS [r]) (mkS [g]) (mkS [b]) (mkS [r, r]) (mkS [r, r, g]) (mkS [r, r, g, g]) (mkS [r, r, g, g, b]) (mkS [r, r, g, g, b, b]) (mkS [r, r, g, g, b, b, 102, 102]) w rfl (mkS_cutN _ 0 1) (mkS_cutN _ 1 2) (mkS_cutN _ 2 3) rfl rfl rfl
        (mkS_append _ _) rfl (mkS_append _ _) rfl (mkS_append _ _) rfl (mkS_append _ _) rfl (mkS_append _ _) rfl (mkS_append _ [102, 102])
  · have hc : compl l = if l.length = 6 then l ++ [102, 102] else if l.length = 8 then l else [] := by
      unfold compl
      split
      · exact absurd rfl h3
      · rfl
    rw [hc]
    by_cases h6 : l.length = 6
    · rw [if_pos h6]
      exact k51_6 _ _ w h6 (mkS_append l [102, 102])
    · rw [if_neg h6]
      by_cases h8 : l.length = 8
      · rw [if_pos h8]
        exact k51_8 _ w h8
      · rw [if_neg h8]
        have e : (mkS l).size = l.length := rfl
        exact k51_0 _ w (by rw [beq_eq_false_iff_ne, e]; omega) (by rw [beq_eq_false_iff_ne, e]; omega) (by rw [beq_eq_false_iff_ne, e]; omega) (by rw [beq_eq_false_iff_ne, e]; omega) (by rw [beq_eq_false_iff_ne, e]; omega) (by rw [beq_eq_false_iff_ne, e]; omega)
/-- the closure: one of the four numbers of eight bits. -/
theorem bits255 (n : Nat) (h : n < 18446744073709551616) : bits .and .u64 (n : Int) 255 = ((n % 256 : Nat) : Int) := by
  have := u64_and_nat n 255 h (by omega)
  rw [show ((255 : Nat) : Int) = 255 from rfl] at this
  rw [this, show 255 = 2 ^ 8 - 1 from rfl, Nat.and_two_pow_sub_one_eq_mod]
theorem k52_24 (n : Nat) (p : Nat) (w : World) (hp : w.cell? ⟨p, 0, none⟩ = some (.int .u64 (n : Int))) (hn : n < 4294967296) :
    Calls Tryd.prog 52 #[.int .i64 24, .pointer (some ⟨p, 0, none⟩)] w fun e w' => e = .returned (.int .i64 (fr8 ((n / 16777216 % 256 : Nat) : Int))) ∧ w = w' := by
  have e2 := bits255 (n / 16777216) (by omega)
  rw [show ((n / 16777216 : Nat) : Int) = (n : Int) / 16777216 by omega] at e2
  have C1 := Lib.hid (fun w => k28 ((n / 16777216 % 256 : Nat) : Int) w)
  obtain ⟨X, hX⟩ : ∃ X : Int, X = ((n / 16777216 % 256 : Nat) : Int) := ⟨_, rfl⟩
  have hX1 : 0 ≤ X := by omega
  have hX2 : X < 256 := by omega
  rw [← hX] at e2 C1 ⊢
  have e3 : wrap64 X = X := IntWalk.wrap64_in _ (by omega)
  clear hX hn
  go_enter Tryd.func52, Tryd.ntmps52
  go_wp2_with (go_at_call 28; (with_reducible refine (C1.out _).mono ?_); rintro e w1 ⟨rfl, rfl⟩)
  go_ret
  exact ⟨rfl, rfl⟩
theorem k52_16 (n : Nat) (p : Nat) (w : World) (hp : w.cell? ⟨p, 0, none⟩ = some (.int .u64 (n : Int))) (hn : n < 4294967296) :
    Calls Tryd.prog 52 #[.int .i64 16, .pointer (some ⟨p, 0, none⟩)] w fun e w' => e = .returned (.int .i64 (fr8 ((n / 65536 % 256 : Nat) : Int))) ∧ w = w' := by
  have e2 := bits255 (n / 65536) (by omega)
  rw [show ((n / 65536 : Nat) : Int) = (n : Int) / 65536 by omega] at e2
  have C1 := Lib.hid (fun w => k28 ((n / 65536 % 256 : Nat) : Int) w)
  obtain ⟨X, hX⟩ : ∃ X : Int, X = ((n / 65536 % 256 : Nat) : Int) := ⟨_, rfl⟩
  have hX1 : 0 ≤ X := by omega
  have hX2 : X < 256 := by omega
  rw [← hX] at e2 C1 ⊢
  have e3 : wrap64 X = X := IntWalk.wrap64_in _ (by omega)
  clear hX hn
  go_enter Tryd.func52, Tryd.ntmps52
  go_wp2_with (go_at_call 28; (with_reducible refine (C1.out _).mono ?_); rintro e w1 ⟨rfl, rfl⟩)
  go_ret
  exact ⟨rfl, rfl⟩
theorem k52_8 (n : Nat) (p : Nat) (w : World) (hp : w.cell? ⟨p, 0, none⟩ = some (.int .u64 (n : Int))) (hn : n < 4294967296) :
    Calls Tryd.prog 52 #[.int .i64 8, .pointer (some ⟨p, 0, none⟩)] w fun e w' => e = .returned (.int .i64 (fr8 ((n / 256 % 256 : Nat) : Int))) ∧ w = w' := by
  have e2 := bits255 (n / 256) (by omega)
  rw [show ((n / 256 : Nat) : Int) = (n : Int) / 256 by omega] at e2
  have C1 := Lib.hid (fun w => k28 ((n / 256 % 256 : Nat) : Int) w)
  obtain ⟨X, hX⟩ : ∃ X : Int, X = ((n / 256 % 256 : Nat) : Int) := ⟨_, rfl⟩
  have hX1 : 0 ≤ X := by omega
  have hX2 : X < 256 := by omega
  rw [← hX] at e2 C1 ⊢
  have e3 : wrap64 X = X := IntWalk.wrap64_in _ (by omega)
  clear hX hn
  go_enter Tryd.func52, Tryd.ntmps52
  go_wp2_with (go_at_call 28; (with_reducible refine (C1.out _).mono ?_); rintro e w1 ⟨rfl, rfl⟩)
  go_ret
  exact ⟨rfl, rfl⟩
theorem k52_0 (n : Nat) (p : Nat) (w : World) (hp : w.cell? ⟨p, 0, none⟩ = some (.int .u64 (n : Int))) (hn : n < 4294967296) :
    Calls Tryd.prog 52 #[.int .i64 0, .pointer (some ⟨p, 0, none⟩)] w fun e w' => e = .returned (.int .i64 (fr8 ((n % 256 : Nat) : Int))) ∧ w = w' := by
  have e2 := bits255 (n) (by omega)
  rw [show ((n : Nat) : Int) = (n : Int)  by omega] at e2
  have C1 := Lib.hid (fun w => k28 ((n % 256 : Nat) : Int) w)
  obtain ⟨X, hX⟩ : ∃ X : Int, X = ((n % 256 : Nat) : Int) := ⟨_, rfl⟩
  have hX1 : 0 ≤ X := by omega
  have hX2 : X < 256 := by omega
  rw [← hX] at e2 C1 ⊢
  have e3 : wrap64 X = X := IntWalk.wrap64_in _ (by omega)
  clear hX hn
  go_enter Tryd.func52, Tryd.ntmps52
  go_wp2_with (go_at_call 28; (with_reducible refine (C1.out _).mono ?_); rintro e w1 ⟨rfl, rfl⟩)
  go_ret
  exact ⟨rfl, rfl⟩

end Go.Proofs.YtmekcgbljpeglaaDoor
