import Derived.Test.YtnjkbmkbifbgkaaProg
import Derived.WalkKit
import Derived.WalkLawsBesides
import Derived.Outline
import Derived.Lib.Walk
import Derived.Deep.QuietTactic
import Derived.BigQuiet
import Derived.RowKit3
import Derived.Deep.LoopGhost
import Derived.Laws.Rows
import Derived.Laws.Tables
import Derived.Laws.CopyOwn
import Derived.Lib.Hide
import Derived.Handy
import Derived.Deep.Onto
import Derived.Test.YtnjkbmkbifbgkaaK1
namespace Go.Proofs.Ytnjkbmkbifbgkaa
open Go.RowKit
set_option maxHeartbeats 400000
set_option linter.unusedVariables false

set_option maxHeartbeats 8000000 in
theorem c11 (v : Value) (L : KL) (w : World) (h : argK w w.heap.size v L) :
    Calls Try.prog 11 #[v] w fun e w' => e = .returned (.int .i64 (chk L)) ∧ Below w.heap.size w w' := by
  have C25 := Lib.hid (fun x w => cq25 x w)
  obtain ⟨ao, cap, rfl, h⟩ := h
  obtain ⟨n, hn⟩ : ∃ n, L.length = n := ⟨_, rfl⟩
  rw [hn] at h ⊢
  have HN := Lib.hid hn
  have H := Lib.hid h
  by_cases h2 : n < 2
  · rw [chk_few (by omega)]
    clear h hn H HN
    have d2 : decide ((n : Int) < 2) = true := decide_eq_true (by omega)
    go_enter Try.func11, Try.ntmps11
    go_wp2
    go_ret
    exact ⟨rfl, Below.refl _ _⟩
  have d2 : decide ((n : Int) < 2) = false := decide_eq_false (by omega)
  by_cases h16 : 16 < n
  · rw [chk_many (by omega)]
    clear h hn H HN h2
    have d16 : decide ((16 : Int) < n) = true := decide_eq_true (by omega)
    go_enter Try.func11, Try.ntmps11
    go_wp2
    go_ret
    exact ⟨rfl, Below.refl _ _⟩
  have d16 : decide ((16 : Int) < n) = false := decide_eq_false (by omega)
  have hn16 : n ≤ 16 := by omega
  have BAD := Lib.hid (fun k (hz : ∀ j, j < k → bad L j = 0) (hk : k < n) (hb : bad L k ≠ 0) => chk_first (L := L) (k := k) (by omega) (by omega) hz (by omega) hb)
  have ALL := Lib.hid (fun (hz : ∀ j, j < n → bad L j = 0) => chk_all (L := L) (by omega) (by omega) (by rw [HN.out]; exact hz))
  clear h hn h2 h16
  go_enter Try.func11, Try.ntmps11
  go_wp2
  go_loopw [13] (fun i wr => ∃ k : Nat, k ≤ n ∧ i = .int .i64 (k : Int) ∧ (∀ j, j < k → bad L j = 0) ∧ Below w.heap.size w wr) (fun i _ => (n - (intOf i).toNat))
  case atStart => exact ⟨0, by omega, rfl, fun j hj => absurd hj (Nat.not_lt_zero j), Below.refl _ _⟩
  case round =>
    obtain ⟨k, hk, rfl, hz, hnx⟩ := hrel
    have HZ := Lib.hid hz
    clear hz
    by_cases hlt : k < n
    · obtain ⟨g, o, rfl, hblk, hc⟩ := H.out (by omega)
      obtain ⟨f0, f1⟩ := hc k hlt
      replace f0 := (hnx.cell (p := ⟨g, o + k * 2, none⟩) hblk).trans f0
      replace f1 := (hnx.cell (p := ⟨g, o + k * 2 + 1, none⟩) hblk).trans f1
      have hkz := Lib.hid (fun (m : Nat) (hm : k = m + 1) (W : World) (hW : Below w.heap.size w W) => (hW.cell (p := ⟨g, o + m * 2, none⟩) hblk).trans (hc m (by omega)).1)
      have kk : IntKind.i64.wrap ((k : Int) + 1) = (k : Int) + 1 := IntWalk.i64_in _ (by omega)
      have BK := Lib.hid (BAD.out k HZ.out hlt)
      have NX := Lib.hid (fun (hb : bad L k = 0) j (hj : j < k + 1) => (show bad L j = 0 from by
          rcases Nat.lt_or_eq_of_le (Nat.le_of_lt_succ hj) with h | h
          · exact HZ.out j h
          · rw [h]; exact hb))
      have EB : bad L k = if okK (kn L k) = false then 2 else if 0 < k ∧ (kn L k).1 ≤ (kn L (k - 1)).1 then 24 else 0 := rfl
      have EO : okK (kn L k) = (decide ((kn L k).1 = cu (kn L k).1) && decide ((kn L k).2 = cu (kn L k).2)) := rfl
      clear hc
      obtain ⟨x, hx⟩ : ∃ x, (kn L k).1 = x := ⟨_, rfl⟩
      obtain ⟨y, hy⟩ : ∃ y, (kn L k).2 = y := ⟨_, rfl⟩
      rw [hx] at f0 EB EO
      rw [hy] at f1 EO
      clear hx hy
      have cx := C25.out x
      have cy := C25.out y
      clear C25
      by_cases hu : x = cu x
      · rw [← hu] at cx
        by_cases hv : y = cu y
        · rw [← hv] at cy
          rw [decide_eq_true hu, decide_eq_true hv] at EO
          rw [EO, if_neg (by decide)] at EB
          clear hu hv EO
          have Cx := Lib.hid cx
          have Cy := Lib.hid cy
          clear cx cy
          by_cases h0 : 0 < k
          · obtain ⟨m, hm⟩ : ∃ m, k = m + 1 := ⟨k - 1, by omega⟩
            have f2 := hkz.out m hm _ hnx
            have f2a := fun ob => hkz.out m hm _ (bel_al hnx ob)
            have k1 : IntKind.i64.wrap ((k : Int) - 1) = (m : Int) := by rw [IntWalk.i64_in _ (by omega)]; omega
            have km : (k : Int) - 1 = (m : Int) := by omega
            have d0 : decide ((0 : Int) < (k : Int)) = true := decide_eq_true (by omega)
            have hm2 : (m : Int) < (n : Int) := by omega
            rw [show k - 1 = m by omega] at EB
            obtain ⟨z, hz⟩ : ∃ z, (kn L m).1 = z := ⟨_, rfl⟩
            rw [hz] at f2 EB
            simp only [hz] at f2a
            clear hz hkz
            by_cases hxz : x ≤ z
            · rw [if_pos ⟨h0, hxz⟩] at EB
              have E := Lib.hid ((BK.out (by rw [EB]; decide)).trans EB)
              have dz := decide_eq_true hxz
              clear EB NX BK HZ BAD ALL hm
              go_wp2
              go_quiet (first | (go_at_call 25; exact Calls.quiet_of (Cx.out _)) | (go_at_call 25; exact Calls.quiet_of (Cy.out _)))
              go_wp2
              go_quiet (fail)
              go_wp2
              go_ret
              exact ⟨ret_int E.out.symm, by first | (go_grown; done) | exact bel_dr hnx _ | exact bel_dr (bel_al hnx _) _ | exact bel_dr (bel_dr (bel_al hnx _) _) _⟩
            · rw [if_neg fun h => hxz h.2] at EB
              have E := Lib.hid (NX.out EB)
              have dz := decide_eq_false (p := x ≤ z) hxz
              clear EB NX BK HZ BAD ALL hm
              go_wp2
              go_quiet (first | (go_at_call 25; exact Calls.quiet_of (Cx.out _)) | (go_at_call 25; exact Calls.quiet_of (Cy.out _)))
              go_wp2
              go_quiet (fail)
              go_wp2
              go_roundw
              case rel => exact ⟨k + 1, by omega, by simp, E.out, by first | (go_grown; done) | exact bel_dr hnx _ | exact bel_dr (bel_al hnx _) _ | exact bel_dr (bel_dr (bel_al hnx _) _) _⟩
              case measure => simp [intOf]; omega
          · rw [if_neg fun h => h0 h.1] at EB
            have E := Lib.hid (NX.out EB)
            have d0 : decide ((0 : Int) < (k : Int)) = false := decide_eq_false (by omega)
            clear EB NX BK HZ BAD ALL hkz
            go_wp2
            go_quiet (first | (go_at_call 25; exact Calls.quiet_of (Cx.out _)) | (go_at_call 25; exact Calls.quiet_of (Cy.out _)))
            go_wp2
            go_quiet (fail)
            go_wp2
            go_roundw
            case rel => exact ⟨k + 1, by omega, by simp, E.out, by first | (go_grown; done) | exact bel_dr hnx _ | exact bel_dr (bel_al hnx _) _ | exact bel_dr (bel_dr (bel_al hnx _) _) _⟩
            case measure => simp [intOf]; omega
        · have nv : (y == cu y) = false := by simpa using hv
          generalize cu y = cy' at *
          rw [decide_eq_true hu, decide_eq_false hv] at EO
          rw [EO, if_pos (by decide)] at EB
          have E := Lib.hid ((BK.out (by rw [EB]; decide)).trans EB)
          clear hu EO EB NX BK HZ BAD ALL hkz
          have Cx := Lib.hid cx
          have Cy := Lib.hid cy
          clear cx cy
          go_wp2
          go_quiet (first | (go_at_call 25; exact Calls.quiet_of (Cx.out _)) | (go_at_call 25; exact Calls.quiet_of (Cy.out _)))
          go_wp2
          go_ret
          exact ⟨ret_int E.out.symm, by first | (go_grown; done) | exact bel_dr hnx _ | exact bel_dr (bel_al hnx _) _ | exact bel_dr (bel_dr (bel_al hnx _) _) _⟩
      · have nu : (x == cu x) = false := by simpa using hu
        generalize cu x = cx' at *
        rw [decide_eq_false hu] at EO
        rw [EO, if_pos (by simp)] at EB
        have E := Lib.hid ((BK.out (by rw [EB]; decide)).trans EB)
        clear EO EB NX BK HZ BAD ALL hkz cy
        have Cx := Lib.hid cx
        clear cx
        go_wp2
        go_quiet (first | (go_at_call 25; exact Calls.quiet_of (Cx.out _)))
        go_wp2
        go_ret
        exact ⟨ret_int E.out.symm, by first | (go_grown; done) | exact bel_dr hnx _ | exact bel_dr (bel_al hnx _) _ | exact bel_dr (bel_dr (bel_al hnx _) _) _⟩
    · obtain rfl : k = n := by omega
      have E := Lib.hid (ALL.out HZ.out)
      clear HZ BAD ALL
      go_wp2
      go_ret
      exact ⟨ret_int E.out.symm, by first | (go_grown; done) | exact bel_dr hnx _ | exact bel_dr (bel_al hnx _) _ | exact bel_dr (bel_dr (bel_al hnx _) _) _⟩

end Go.Proofs.Ytnjkbmkbifbgkaa
