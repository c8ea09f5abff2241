import Derived.Test.YtmekcgbljpeglaaDoorProg
import Derived.WalkKit
import Derived.WalkLawsBesides
import Derived.Outline
import Derived.Lib.Walk
import Derived.Deep.QuietTactic
import Derived.BigQuiet
import Derived.RowKit3
import Derived.Deep.LoopGhost
import Derived.Laws.Rows
import Derived.Laws.Tables
import Derived.Laws.CopyOwn
import Derived.Lib.Hide
import Derived.Handy
import Derived.Deep.Onto
import Derived.IntWalk
import Derived.Deep.RegionWith
import Derived.Test.YtmekcgbljpeglaaDoorA1
import Derived.Test.YtmekcgbljpeglaaDoorA2
import Derived.Test.YtmekcgbljpeglaaDoorQT
import Derived.Test.YtmekcgbljpeglaaDoorEQ
import Derived.Test.YtmekcgbljpeglaaDoorB1
import Derived.Test.YtmekcgbljpeglaaDoorB3
import Derived.Test.YtmekcgbljpeglaaDoorB4
namespace Go.Proofs.YtmekcgbljpeglaaDoor
open Go.RowKit
set_option maxHeartbeats 400000
set_option linter.unusedVariables false

theorem k45 (x y m n d : Int) (p q s : Nat) (w : World) (hp : w.cell? ⟨p, 0, none⟩ = some (.int .i64 m)) (hq : w.cell? ⟨q, 0, none⟩ = some (.int .i64 n)) (hs : w.cell? ⟨s, 0, none⟩ = some (.int .i64 d))
    (hx : 0 ≤ x) (hx' : x ≤ 65535) (hy : 0 ≤ y) (hy' : y ≤ 65535) (hm : 0 ≤ m) (hm' : m ≤ 4294836225) (hn : 0 ≤ n) (hn' : n ≤ 4294836225) (hd : 0 ≤ d) (hd' : d ≤ 8589672450) :
    Calls Tryd.prog 45 #[.int .i64 x, .int .i64 y, .pointer (some ⟨p, 0, none⟩), .pointer (some ⟨q, 0, none⟩), .pointer (some ⟨s, 0, none⟩)] w fun e w' => e = .returned (.int .i64 (dvi (x * m + y * n) d)) ∧ ∃ k, w' = w.drewN k := by
  have a1 : 0 ≤ x * m := Int.mul_nonneg hx hm
  have a2 : x * m ≤ 65535 * 4294836225 := Int.mul_le_mul hx' hm' hm (by omega)
  have a3 : 0 ≤ y * n := Int.mul_nonneg hy hn
  have a4 : y * n ≤ 65535 * 4294836225 := Int.mul_le_mul hy' hn' hn (by omega)
  obtain ⟨X, hX⟩ : ∃ X, X = x * m := ⟨_, rfl⟩
  obtain ⟨Y, hY⟩ : ∃ Y, Y = y * n := ⟨_, rfl⟩
  rw [← hX] at a1 a2 ⊢
  rw [← hY] at a3 a4 ⊢
  have e1 : IntKind.i64.wrap (x * m) = X := by rw [← hX]; exact IntWalk.i64_in _ (by omega)
  have e2 : IntKind.i64.wrap (y * n) = Y := by rw [← hY]; exact IntWalk.i64_in _ (by omega)
  have e3 : IntKind.i64.wrap (X + Y) = X + Y := IntWalk.i64_in _ (by omega)
  have C1 := Lib.hid (fun w => t14 (X + Y) d w (by omega) (by omega) (by omega) (by omega))
  clear hX hY a1 a2 a3 a4 hx hx' hy hy' hm hm' hn hn' hd hd'
  go_enter Tryd.func45, Tryd.ntmps45
  go_wp2_with (go_at_call 44; (with_reducible refine (C1.out _).mono ?_); rintro e w1 ⟨rfl, nq, rfl⟩)
  go_ret
  exact ⟨rfl, _, rfl⟩

end Go.Proofs.YtmekcgbljpeglaaDoor
