import Derived.Test.YtnjkbmkbifbgkaaProg
import Derived.WalkKit
import Derived.WalkLawsBesides
import Derived.Outline
import Derived.Lib.Walk
import Derived.Deep.QuietTactic
import Derived.BigQuiet
import Derived.RowKit3
import Derived.Deep.LoopGhost
import Derived.Laws.Rows
import Derived.Laws.Tables
import Derived.Laws.CopyOwn
import Derived.Lib.Hide
import Derived.Handy
import Derived.Deep.Onto
import Derived.Test.YtnjkbmkbifbgkaaEQ
import Derived.Test.YtnjkbmkbifbgkaaK1
namespace Go.Proofs.Ytnjkbmkbifbgkaa
open Go.RowKit
set_option maxHeartbeats 400000
set_option linter.unusedVariables false

theorem eq_kn {L M : KL} (hl : L.length = M.length) (h : ∀ i, i < L.length → kn L i = kn M i) : L = M := by
  apply List.ext_getElem hl
  intro i h1 h2
  have := h i h1
  unfold kn at this
  rw [List.getD_eq_getElem?_getD, List.getD_eq_getElem?_getD, List.getElem?_eq_getElem h1, List.getElem?_eq_getElem h2] at this
  exact this
set_option maxHeartbeats 8000000 in
/-- 'same' of two lists that are equal. -/
theorem l20 (u v : Value) (L : KL) (w : World) (hl : L.length ≤ 1048576) (h1 : argK w w.heap.size u L) (h2 : argK w w.heap.size v L) :
    Calls Try.prog 20 #[u, v] w fun e w' => e = .returned (.bool true) ∧ Below w.heap.size w w' := by
  obtain ⟨ao, cap, rfl, h⟩ := h1
  obtain ⟨ao', cap', rfl, h'⟩ := h2
  obtain ⟨n, hn⟩ : ∃ n, L.length = n := ⟨_, rfl⟩
  rw [hn] at h h' hl ⊢
  have H := Lib.hid h
  have H' := Lib.hid h'
  clear h h' hn
  go_enter Try.func20, Try.ntmps20
  go_wp2
  go_loopw [5] (fun i wr => ∃ k : Nat, k ≤ n ∧ i = .int .i64 (k : Int) ∧ Below w.heap.size w wr) (fun i _ => (n - (intOf i).toNat))
  case atStart => exact ⟨0, by omega, rfl, Below.refl _ _⟩
  case round =>
    obtain ⟨k, hk, rfl, hnx⟩ := hrel
    by_cases hlt : k < n
    · obtain ⟨g, o, rfl, hblk, hc⟩ := H.out (by omega)
      obtain ⟨g', o', rfl, hblk', hc'⟩ := H'.out (by omega)
      have f0 := (hnx.cell (p := ⟨g, o + k * 2, none⟩) hblk).trans (hc k hlt).1
      have f1 := (hnx.cell (p := ⟨g, o + k * 2 + 1, none⟩) hblk).trans (hc k hlt).2
      have f2 := (hnx.cell (p := ⟨g', o' + k * 2, none⟩) hblk').trans (hc' k hlt).1
      have f3 := (hnx.cell (p := ⟨g', o' + k * 2 + 1, none⟩) hblk').trans (hc' k hlt).2
      have kk : IntKind.i64.wrap ((k : Int) + 1) = (k : Int) + 1 := IntWalk.i64_in _ (by omega)
      have e0 := neqK (kn L k) (kn L k)
      rw [(same2_iff _ _).2 rfl] at e0
      have hkn : (k : Int) < (n : Int) := by omega
      clear hc hc'
      generalize (kn L k).1 = x at *
      generalize (kn L k).2 = y at *
      go_wp2
      go_quiet (fail)
      go_wp2
      go_roundw
      case rel => exact ⟨k + 1, by omega, by simp, bel_dr hnx _⟩
      case measure => simp [intOf]; omega
    · obtain rfl : k = n := by omega
      go_wp2
      go_ret
      exact ⟨rfl, hnx⟩

end Go.Proofs.Ytnjkbmkbifbgkaa
