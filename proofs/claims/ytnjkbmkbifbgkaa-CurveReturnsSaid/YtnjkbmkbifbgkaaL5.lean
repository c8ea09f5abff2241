import Derived.Test.YtnjkbmkbifbgkaaProg
import Derived.WalkKit
import Derived.WalkLawsBesides
import Derived.Outline
import Derived.Lib.Walk
import Derived.Deep.QuietTactic
import Derived.BigQuiet
import Derived.RowKit3
import Derived.Deep.LoopGhost
import Derived.Laws.Rows
import Derived.Laws.Tables
import Derived.Laws.CopyOwn
import Derived.Lib.Hide
import Derived.Handy
import Derived.Deep.Onto
import Derived.Test.YtnjkbmkbifbgkaaAW
namespace Go.Proofs.Ytnjkbmkbifbgkaa
open Go.RowKit
set_option maxHeartbeats 400000
set_option linter.unusedVariables false

set_option maxHeartbeats 8000000 in
theorem l5 (v : Value) (L : KL) (w : World) (h : argK w w.heap.size v L) :
    Calls Try.prog 5 #[v] w fun e w' => e = .returned (.bool true) ∧ Below w.heap.size w w' := by
  have B0 : Below w.heap.size w w := Below.refl _ _
  have A15 := Lib.hid (fun w => l15 w)
  have H18 := Lib.hid (fun W (hW : Below w.heap.size w W) => k18 v L W (h.up hW hW.size))
  have H19 := Lib.hid (fun W (hW : Below w.heap.size w W) => s19 v L W (h.up hW hW.size))
  have hl : (invR L).length ≤ 1048576 := by
    unfold invR
    split
    · rename_i hr
      have := (chk_good (ris_chk hr)).some
      unfold invF
      rw [List.length_map]
      omega
    · simp
  obtain ⟨ao, cap, rfl, h⟩ := h
  clear h
  generalize L.length = n at *
  generalize invE L = E at *
  generalize invR L = R at *
  go_enter Try.func5, Try.ntmps5
  go_wp2_with (go_at_call 18; fail)
  (with_reducible refine (H18.out _ B0).mono ?_)
  rintro e1 w1 ⟨u1, rfl, ha1, hg1⟩
  have B1 := bel_trans B0 hg1
  go_wp2_with (go_at_call 19; fail)
  (with_reducible refine (H19.out _ B1).mono ?_)
  rintro e2 w2 ⟨u2, rfl, ha2, hg2⟩
  have B2 := bel_trans B1 hg2
  have H20 := Lib.hid (l20 u1 u2 R w2 hl (argK_bel ha1 hg2) ha2)
  clear hg1 hg2 ha1 ha2 B0 B1 H18 H19
  go_wp2_with (go_at_call 20; fail)
  (with_reducible refine H20.out.mono ?_)
  rintro e3 w3 ⟨rfl, hg⟩
  have B3 := bel_trans B2 hg
  clear hg B2
  go_wp2_with (go_at_call 15; fail)
  (with_reducible refine (A15.out _).mono ?_)
  rintro e4 w4 ⟨rfl, hg⟩
  have B4 := bel_trans B3 hg
  go_wp2
  go_ret
  exact ⟨rfl, B4⟩

set_option maxHeartbeats 8000000 in
theorem l9 (v : Value) (L : KL) (w : World) (h : argK w w.heap.size v L) :
    Calls Try.prog 9 #[v] w fun e w' => e = .returned (.bool true) ∧ Below w.heap.size w w' := by
  have B0 : Below w.heap.size w w := Below.refl _ _
  have A15 := Lib.hid (fun w => l15 w)
  have H14 := Lib.hid (fun W (hW : Below w.heap.size w W) => s14 v L W (h.up hW hW.size))
  have H18 := Lib.hid (fun W (hW : Below w.heap.size w W) => k18 v L W (h.up hW hW.size))
  obtain ⟨r, hr⟩ : ∃ r, ris L = r := ⟨_, rfl⟩
  rw [hr] at H14
  cases r
  · clear hr H18
    obtain ⟨ao, cap, rfl, h⟩ := h
    clear h
    generalize L.length = n at *
    go_enter Try.func9, Try.ntmps9
    go_wp2_with (go_at_call 14; fail)
    (with_reducible refine (H14.out _ B0).mono ?_)
    rintro e1 w1 ⟨rfl, hg⟩
    have B1 := bel_trans B0 hg
    clear hg B0
    go_wp2_with (go_at_call 15; fail)
    (with_reducible refine (A15.out _).mono ?_)
    rintro e2 w2 ⟨rfl, hg⟩
    have B2 := bel_trans B1 hg
    go_wp2
    go_ret
    exact ⟨rfl, B2⟩
  · have hr2 := ris_inv hr
    have e1 : invE L = 0 := by unfold invE; rw [if_pos (ris_chk hr), if_pos hr]
    have e2 : invR L = invF L := by unfold invR; rw [if_pos hr]
    have e3 : invE (invF L) = 0 := by unfold invE; rw [if_pos (ris_chk hr2), if_pos hr2]
    have e4 : invR (invF L) = L := by unfold invR; rw [if_pos hr2, inv_inv]
    have hl := (chk_good (ris_chk hr)).some
    rw [e1, e2] at H18
    have K18 := Lib.hid (fun u W (hu : argK W W.heap.size u (invF L)) => k18 u (invF L) W hu)
    rw [e3, e4] at K18
    have K13 := Lib.hid (fun u W (hu : argK W W.heap.size u (invF L)) => c13 u (invF L) W hu)
    rw [hr2] at K13
    generalize invF L = M at *
    have hK := Lib.hid h
    have K20 := Lib.hid (fun u W (hW : Below w.heap.size w W) (hu : argK W W.heap.size u L) => l20 u v L W (by omega) hu (h.up hW hW.size))
    obtain ⟨ao, cap, rfl, h⟩ := h
    clear h hr hr2 e1 e2 e3 e4 hK
    generalize L.length = n at *
    go_enter Try.func9, Try.ntmps9
    go_wp2_with (go_at_call 14; fail)
    (with_reducible refine (H14.out _ B0).mono ?_)
    rintro e1 w1 ⟨rfl, hg⟩
    have B1 := bel_trans B0 hg
    clear hg B0
    go_wp2_with (go_at_call 18; fail)
    (with_reducible refine (H18.out _ B1).mono ?_)
    rintro e2 w2 ⟨u2, rfl, ha2, hg⟩
    have B2 := bel_trans B1 hg
    clear hg B1
    go_wp2_with (go_at_call 18; fail)
    (with_reducible refine (K18.out _ _ ha2).mono ?_)
    rintro e3 w3 ⟨u3, rfl, ha3, hg⟩
    have B3 := bel_trans B2 hg
    have ha4 := argK_bel ha2 hg
    clear hg B2 ha2
    go_wp2_with (go_at_call 13; fail)
    (with_reducible refine (K13.out _ _ ha4).mono ?_)
    rintro e4 w4 ⟨rfl, hg⟩
    have B4 := bel_trans B3 hg
    have ha5 := argK_bel ha3 hg
    clear hg B3 ha3 ha4
    go_wp2_with (go_at_call 20; fail)
    (with_reducible refine (K20.out _ _ B4 ha5).mono ?_)
    rintro e5 w5 ⟨rfl, hg⟩
    have B5 := bel_trans B4 hg
    clear hg B4 ha5
    go_wp2_with (go_at_call 15; fail)
    (with_reducible refine (A15.out _).mono ?_)
    rintro e6 w6 ⟨rfl, hg⟩
    have B6 := bel_trans B5 hg
    go_wp2
    go_ret
    exact ⟨rfl, B6⟩

end Go.Proofs.Ytnjkbmkbifbgkaa
