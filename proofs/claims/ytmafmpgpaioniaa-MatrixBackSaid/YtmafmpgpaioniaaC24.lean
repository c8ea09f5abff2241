import Derived.Test.YtmafmpgpaioniaaProg
import Derived.WalkKit
import Derived.WalkLawsBesides
import Derived.Outline
import Derived.Lib.Walk
import Derived.Deep.QuietTactic
import Derived.BigQuiet
import Derived.RowKit3
import Derived.Deep.LoopGhost
import Derived.Laws.Rows
import Derived.Laws.Tables
import Derived.Laws.CopyOwn
import Derived.Lib.Hide
import Derived.Handy
import Derived.Deep.Onto
import Derived.IntWalk
import Derived.Deep.WholeRow
import Derived.Laws.ResultCell
import Derived.Test.YtmafmpgpaioniaaC17
namespace Go.Proofs.Ytmafmpgpaioniaa
open Go.RowKit
set_option maxHeartbeats 400000
set_option linter.unusedVariables false

def whoF (m : Nat → Int) (j : Nat) : Int := IntKind.i64.wrap (m j * 65536)
theorem mixW_upd (k : Nat) (F G : Nat → Int) : upd (mix k F G) k (F k) = mix (k + 1) F G := mix_upd k F G
set_option maxHeartbeats 8000000 in
set_option maxRecDepth 100000 in
theorem c24 (m : Nat → Int) (w : World) :
    Calls Try.prog 24 #[.agg (arr 9 m)] w fun e w' => e = .returned (.agg (arr 9 (whoF m))) ∧ Below w.heap.size w w' := by
  obtain ⟨F, hF⟩ : ∃ F, whoF m = F := ⟨_, rfl⟩
  have HFk := Lib.hid (show ∀ k, F k = IntKind.i64.wrap (m k * 65536) from fun k => by rw [← hF]; rfl)
  have h0 := (Has.new w 9 22 m).keep ((Below.refl _ _).alloc (Nat.le_refl _) (.cells (arr 9 (part 0 F)) 22))
  have h1 := Has.new (w.alloc (.cells (arr 9 m) 22)) 9 22 (part 0 F)
  have hB := bel_al (bel_al (Below.refl w.heap.size w) (.cells (arr 9 m) 22)) (.cells (arr 9 (part 0 F)) 22)
  rw [World.size_alloc] at h1
  obtain ⟨g0, e0⟩ : ∃ g, g = w.heap.size := ⟨_, rfl⟩
  obtain ⟨g1, e1⟩ : ∃ g, g = w.heap.size + 1 := ⟨_, rfl⟩
  have HG := Lib.hid (show g1 ≠ g0 ∧ w.heap.size ≤ g1 ∧ w.heap.size ≤ g0 by omega)
  rw [← e0] at h0
  rw [← e1] at h1
  have HS := Lib.hid (show Below w.heap.size w _ ∧ Has _ g0 9 22 (mix 0 F m) ∧ Has _ g1 9 22 (part 0 F) from ⟨hB, by rw [mix_zero]; exact h0, h1⟩)
  rw [hF]
  clear hF h0 h1 hB
  generalize hM : arr 9 m = M at *
  go_enter Try.func24, Try.ntmps24
  go_wp2
  rw [zeros9 F]
  generalize (w.alloc (.cells M 22)).alloc (.cells (arr 9 (part 0 F)) 22) = V at *
  rw [← e1, ← e0]
  clear e0 e1
  go_loopw [4] (fun kk W => ∃ k : Nat, kk = .int .i64 (k : Int) ∧ k ≤ 9 ∧ Hid (Below w.heap.size w W ∧ Has W g0 9 22 (mix k F m) ∧ Has W g1 9 22 (part 0 F))) (fun kk _ => (9 - (intOf kk).toNat))
  case atStart => exact ⟨0, rfl, by omega, HS⟩
  case round =>
    obtain ⟨k, rfl, hk, hs⟩ := hrel
    clear HS
    by_cases hlt : k < 9
    · have kk : IntKind.i64.wrap ((k : Int) + 1) = (k : Int) + 1 := IntWalk.i64_in _ (by omega)
      have k9 : (k : Int) < 9 := by omega
      have ck := hs.out.2.1.cell hlt
      have fk := hs.out.2.1.frozen k
      rw [show mix k F m k = m k by simp [mix]] at ck
      have hv := HFk.out k
      have HN := Lib.hid (show ∀ x, F k = x → Below w.heap.size w (wr.setCell ⟨g0, k, none⟩ (.int .i64 x)) ∧ Has (wr.setCell ⟨g0, k, none⟩ (.int .i64 x)) g0 9 22 (mix (k + 1) F m) ∧ Has (wr.setCell ⟨g0, k, none⟩ (.int .i64 x)) g1 9 22 (part 0 F) from fun x hx => by
        subst hx
        refine ⟨bel_set hs.out.1 HG.out.2.2 _, ?_, hs.out.2.2.other HG.out.1 _ _⟩
        rw [← mix_upd]
        exact hs.out.2.1.set _ _)
      obtain ⟨z, hz⟩ : ∃ z, IntKind.i64.wrap (m k * 65536) = z := ⟨_, rfl⟩
      rw [hz] at hv
      have HV := Lib.hid hv
      clear hs hv HFk
      generalize m k = x at *
      go_wp2
      go_roundw
      case rel => exact ⟨k + 1, by simp, by omega, Lib.hid (HN.out _ HV.out)⟩
      case measure => simp [intOf]; omega
    · obtain rfl : k = 9 := by omega
      have h3 := hs.out.2.1.mixed
      have h2 := hs.out.2.2
      obtain ⟨a0, a1, a2, a3, a4, a5, a6, a7, a8⟩ := h3.cells9
      obtain ⟨b0, b1, b2, b3, b4, b5, b6, b7, b8⟩ := h2.cells9
      obtain ⟨d0, d1, d2, d3, d4, d5, d6, d7, d8⟩ := h2.froz9
      have hR := Lib.hid (h2.set9 F)
      have hBB := Lib.hid (bel_set9 hs.out.1 HG.out.2.1 F)
      clear h2 h3 hs hlt hk HFk
      go_wp2
      exact bodyPost_ret (v := .agg (arr 9 F)) (results_cell_row rfl _ _ g1 22 (arr 9 F) (0, 0) _ rfl hR.out Try.underlying22 rfl (row22 F)) rfl ⟨rfl, hBB.out⟩

end Go.Proofs.Ytmafmpgpaioniaa
