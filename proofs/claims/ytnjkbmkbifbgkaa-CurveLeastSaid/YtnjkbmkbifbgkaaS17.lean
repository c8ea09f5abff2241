import Derived.Test.YtnjkbmkbifbgkaaProg
import Derived.WalkKit
import Derived.WalkLawsBesides
import Derived.Outline
import Derived.Lib.Walk
import Derived.Deep.QuietTactic
import Derived.BigQuiet
import Derived.RowKit3
import Derived.Deep.LoopGhost
import Derived.Laws.Rows
import Derived.Laws.Tables
import Derived.Laws.CopyOwn
import Derived.Lib.Hide
import Derived.Handy
import Derived.Deep.Onto
import Derived.Test.YtnjkbmkbifbgkaaC16a
import Derived.Test.YtnjkbmkbifbgkaaS14
namespace Go.Proofs.Ytnjkbmkbifbgkaa
open Go.RowKit
set_option maxHeartbeats 400000
set_option linter.unusedVariables false

set_option maxHeartbeats 8000000 in
theorem s17 (v : Value) (L : KL) (x : Int) (w : World) (h : argK w w.heap.size v L) :
    Calls Try.prog 17 #[v, .int .i64 x] w fun e w' => e = .returned (.int .i64 (atF L x)) ∧ Below w.heap.size w w' := by
  have CK := Lib.hid (s12 v L w h)
  obtain ⟨ao, cap, rfl, h⟩ := h
  obtain ⟨n, hn⟩ : ∃ n, L.length = n := ⟨_, rfl⟩
  obtain ⟨E, hE⟩ : ∃ E, chk L = E := ⟨_, rfl⟩
  by_cases h0 : E = 0
  · have gd := chk_good (hE.trans h0)
    have AL := Lib.hid (fun h => atF_left (L := L) (x := x) (hE.trans h0) h)
    have AS := Lib.hid (fun i hi h1 h2 => atF_seg (L := L) (x := x) (i := i) (hE.trans h0) hi h1 h2)
    have AR := Lib.hid (fun h => atF_right (L := L) (x := x) (hE.trans h0) h)
    have g2 := gd.two
    have g16 := gd.some
    have U := Lib.hid gd.unit
    have UP := Lib.hid gd.up
    subst h0
    rw [hn] at h CK g2 g16 U UP AS AR ⊢
    rw [hE] at CK
    clear gd hE
    obtain ⟨g, o, rfl, hblk, hc⟩ := h (by omega)
    clear h
    have HC := Lib.hid (fun (W : World) (hW : Below w.heap.size w W) k (hk : k < n) => (⟨(hW.cell (p := ⟨g, o + k * 2, none⟩) hblk).trans (hc k hk).1, (hW.cell (p := ⟨g, o + k * 2 + 1, none⟩) hblk).trans (hc k hk).2⟩ : W.cell? ⟨g, o + k * 2, none⟩ = some (.int .i64 (kn L k).1) ∧ W.cell? ⟨g, o + k * 2 + 1, none⟩ = some (.int .i64 (kn L k).2)))
    have HN := Lib.hid hn
    clear hc hn
    obtain ⟨R, hR⟩ : ∃ R, atF L x = R := ⟨_, rfl⟩
    rw [hR] at AL AS AR ⊢
    have hn0 : (0 : Int) < (n : Int) := by omega
    obtain ⟨l, hl⟩ : ∃ l, n = l + 1 := ⟨n - 1, by omega⟩
    have nl : IntKind.i64.wrap ((n : Int) - 1) = (l : Int) := by rw [IntWalk.i64_in _ (by omega)]; omega
    have nl2 : (n : Int) - 1 = (l : Int) := by omega
    have nlw : IntKind.i64.wrap (l : Int) = (l : Int) := IntWalk.i64_in _ (by omega)
    have hl2 : (l : Int) < (n : Int) := by omega
    have HL := Lib.hid hl
    rw [show n - 1 = l by omega] at AR
    clear hR hl
    by_cases e0 : x ≤ (kn L 0).1
    · have E := Lib.hid (AL.out e0)
      obtain ⟨x0, hx0⟩ : ∃ x0, (kn L 0).1 = x0 := ⟨_, rfl⟩
      have HX := Lib.hid hx0
      rw [hx0] at e0
      have d0 := decide_eq_true e0
      clear hx0 AL AS AR
      go_enter Try.func17, Try.ntmps17
      go_wp2_with (go_at_call 12; fail)
      (with_reducible refine CK.out.mono ?_)
      rintro e w1 ⟨rfl, hg⟩
      obtain ⟨z0, z1⟩ := HC.out _ hg 0 (by omega)
      simp only [Nat.zero_mul, Nat.add_zero, HX.out] at z0 z1
      rw [← E.out] at z1
      go_wp2
      go_ret
      exact ⟨rfl, hg⟩
    · have hlt0 : (kn L 0).1 ≤ x := by omega
      have HX0 := Lib.hid hlt0
      obtain ⟨x0, hx0⟩ : ∃ x0, (kn L 0).1 = x0 := ⟨_, rfl⟩
      have HX := Lib.hid hx0
      rw [hx0] at e0
      have d0 := decide_eq_false e0
      clear hx0 AL hlt0
      go_enter Try.func17, Try.ntmps17
      go_wp2_with (go_at_call 12; fail)
      (with_reducible refine CK.out.mono ?_)
      rintro e w1 ⟨rfl, hg⟩
      obtain ⟨z0, z1⟩ := HC.out _ hg 0 (by omega)
      simp only [Nat.zero_mul, Nat.add_zero, HX.out] at z0 z1
      clear z1
      go_wp2
      clear z0 HX d0 e0
      go_loopw [5] (fun i wr => ∃ k : Nat, 1 ≤ k ∧ k ≤ n ∧ i = .int .i64 (k : Int) ∧ (kn L (k - 1)).1 ≤ x ∧ Below w.heap.size w wr) (fun i _ => (n - (intOf i).toNat))
      case atStart => exact ⟨1, by omega, by omega, rfl, HX0.out, hg⟩
      case round =>
        obtain ⟨k, h1k, hk, rfl, hi, hnx⟩ := hrel
        have HI := Lib.hid hi
        clear hi hg HX0
        by_cases hlt : k < n
        · obtain ⟨m, hm⟩ : ∃ m, k = m + 1 := ⟨k - 1, by omega⟩
          obtain ⟨z0, z1⟩ := HC.out _ hnx k hlt
          obtain ⟨z2, z3⟩ := HC.out _ hnx m (by omega)
          have kk : IntKind.i64.wrap ((k : Int) + 1) = (k : Int) + 1 := IntWalk.i64_in _ (by omega)
          have k1 : IntKind.i64.wrap ((k : Int) - 1) = (m : Int) := by rw [IntWalk.i64_in _ (by omega)]; omega
          have km : (k : Int) - 1 = (m : Int) := by omega
          have kw : IntKind.i64.wrap (m : Int) = (m : Int) := IntWalk.i64_in _ (by omega)
          have hm2 : (m : Int) < (n : Int) := by omega
          have hkn : (k : Int) < (n : Int) := by omega
          by_cases hx : x < (kn L k).1
          · have hle : (kn L m).1 ≤ x := by have := HI.out; rwa [show k - 1 = m by omega] at this
            have S := AS.out m (by omega) hle (by rw [← hm]; exact hx)
            rw [← hm] at S
            have bm := U.out m (by omega)
            have bc := U.out k hlt
            have hst := UP.out k (by omega) hlt
            rw [show k - 1 = m by omega] at hst
            obtain ⟨q1, q2, q3, q4, q5⟩ := seg_eq _ _ x hst hle hx bm bc
            rw [← S] at q3 q4 q5
            clear AS AR S UP U HC HI hm CK
            generalize kn L m = p at *
            generalize kn L k = q at *
            obtain ⟨x0, y0⟩ := p
            obtain ⟨x1, y1⟩ := q
            dsimp only at *
            have dx1 := decide_eq_true hx
            obtain ⟨dy, hdy⟩ : ∃ dy, dy = y1 - y0 := ⟨_, rfl⟩
            obtain ⟨dx, hdx⟩ : ∃ dx, dx = x - x0 := ⟨_, rfl⟩
            obtain ⟨d, hd⟩ : ∃ d, d = x1 - x0 := ⟨_, rfl⟩
            rw [← hdy, ← hdx] at q1 q2 q3
            rw [← hd] at q3
            obtain ⟨N, hN⟩ : ∃ N, N = dy * dx := ⟨_, rfl⟩
            rw [← hN] at q1 q2 q3
            have C31 := Lib.hid (fun w => t15 N d w (by omega) (by omega) (by omega) (by omega))
            obtain ⟨D, hD⟩ : ∃ D, dvi N d = D := ⟨_, rfl⟩
            rw [hD] at C31 q3
            have a1 : IntKind.i64.wrap (y1 - y0) = dy := by rw [IntWalk.i64_in _ (by omega)]; exact hdy.symm
            have a2 : IntKind.i64.wrap (x - x0) = dx := by rw [IntWalk.i64_in _ (by omega)]; exact hdx.symm
            have a3 : IntKind.i64.wrap (x1 - x0) = d := by rw [IntWalk.i64_in _ (by omega)]; exact hd.symm
            have a4 : IntKind.i64.wrap (dy * dx) = N := by rw [← hN]; exact IntWalk.i64_in _ (by omega)
            have a5 : IntKind.i64.wrap (y0 + D) = R := by rw [← q3]; exact IntWalk.i64_in _ (by omega)
            clear hdy hdx hd hN hD q1 q2 q3 q4 q5 bm bc hst hle
            go_wp2
            (try simp only [List.append])
            go_quiet ((go_at_call 31; exact Calls.quiet_of (C31.out _)))
            go_wp2
            go_ret
            exact ⟨rfl, bel_dr hnx _⟩
          · have NX := Lib.hid (show (kn L (k + 1 - 1)).1 ≤ x by rw [Nat.add_sub_cancel]; omega)
            clear AS AR UP U HC HI hm CK z2 z3 z1
            generalize (kn L k).1 = x1 at *
            have dx1 := decide_eq_false hx
            go_wp2
            go_roundw
            case rel => exact ⟨k + 1, by omega, by omega, by simp, NX.out, hnx⟩
            case measure => simp [intOf]; omega
        · obtain rfl : k = n := by omega
          have hE : R = (kn L l).2 := AR.out (by have := HI.out; have := HL.out; rwa [show k - 1 = l by omega] at *)
          obtain ⟨z0, z1⟩ := HC.out _ hnx l (by have := HL.out; omega)
          rw [← hE] at z1
          clear hE HC AS AR UP U HI z0 CK HL
          go_wp2
          go_ret
          exact ⟨rfl, hnx⟩
  · have R := Lib.hid (atF_bad (L := L) (x := x) (fun h => h0 (hE.symm.trans h)))
    rw [hE, hn] at CK
    rw [hn]
    have nE : (E == 0) = false := by simpa using h0
    have C30 := Lib.hid (fun w => s30 x w)
    generalize cu x = u at *
    generalize atF L x = a at *
    clear h hE
    go_enter Try.func17, Try.ntmps17
    go_wp2_with (go_at_call 12; fail)
    (with_reducible refine CK.out.mono ?_)
    rintro e w1 ⟨rfl, hg⟩
    go_wp2_with (go_at_call 30; ((with_reducible refine (C30.out _).mono ?_); rintro e w' ⟨rfl, rfl⟩))
    go_ret
    exact ⟨ret_int R.out.symm, hg⟩

end Go.Proofs.Ytnjkbmkbifbgkaa
