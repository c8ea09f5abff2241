import Derived.Test.YtnjkbmkbifbgkaaProg
import Derived.WalkKit
import Derived.WalkLawsBesides
import Derived.Outline
import Derived.Lib.Walk
import Derived.Deep.QuietTactic
import Derived.BigQuiet
import Derived.RowKit3
import Derived.Deep.LoopGhost
import Derived.Laws.Rows
import Derived.Laws.Tables
import Derived.Laws.CopyOwn
import Derived.Lib.Hide
import Derived.Handy
import Derived.Deep.Onto
import Derived.Test.YtnjkbmkbifbgkaaS12
import Derived.Test.YtnjkbmkbifbgkaaEQ
namespace Go.Proofs.Ytnjkbmkbifbgkaa
open Go.RowKit
set_option maxHeartbeats 400000
set_option linter.unusedVariables false

set_option maxHeartbeats 8000000 in
theorem s14 (v : Value) (L : KL) (w : World) (h : argK w w.heap.size v L) :
    Calls Try.prog 14 #[v] w fun e w' => e = .returned (.bool (ris L)) ∧ Below w.heap.size w w' := by
  have CK := Lib.hid (s12 v L w h)
  obtain ⟨ao, cap, rfl, h⟩ := h
  obtain ⟨n, hn⟩ : ∃ n, L.length = n := ⟨_, rfl⟩
  have RI := Lib.hid (ris_iff L)
  have NO := Lib.hid (fun h => ris_no (L := L) h)
  obtain ⟨E, hE⟩ : ∃ E, chk L = E := ⟨_, rfl⟩
  by_cases h0 : E = 0
  · have g := chk_good (hE.trans h0)
    have g2 := g.two
    have g16 := g.some
    subst h0
    rw [hn] at h RI NO CK g2 g16 ⊢
    rw [hE] at CK RI NO
    have H := Lib.hid h
    clear h g hE
    obtain ⟨gb, o, rfl, hblk, hc⟩ := H.out (by omega)
    obtain ⟨l, hl⟩ : ∃ l, n = l + 1 := ⟨n - 1, by omega⟩
    have nl : IntKind.i64.wrap ((n : Int) - 1) = (l : Int) := by rw [IntWalk.i64_in _ (by omega)]; omega
    have nl2 : (n : Int) - 1 = (l : Int) := by omega
    have hl2 : (l : Int) < (n : Int) := by omega
    have hn0 : (0 : Int) < (n : Int) := by omega
    have HC := Lib.hid (fun (W : World) (hW : Below w.heap.size w W) => (⟨(hW.cell (p := ⟨gb, o, none⟩) hblk).trans (by simpa using (hc 0 (by omega)).1), (hW.cell (p := ⟨gb, o + 1, none⟩) hblk).trans (by simpa using (hc 0 (by omega)).2), (hW.cell (p := ⟨gb, o + l * 2, none⟩) hblk).trans (hc l (by omega)).1, (hW.cell (p := ⟨gb, o + l * 2 + 1, none⟩) hblk).trans (hc l (by omega)).2⟩ :
      W.cell? ⟨gb, o, none⟩ = some (.int .i64 (kn L 0).1) ∧ W.cell? ⟨gb, o + 1, none⟩ = some (.int .i64 (kn L 0).2) ∧ W.cell? ⟨gb, o + l * 2, none⟩ = some (.int .i64 (kn L l).1) ∧ W.cell? ⟨gb, o + l * 2 + 1, none⟩ = some (.int .i64 (kn L l).2)))
    have e0 := neqK (kn L 0) (0, 0)
    have el := neqK (kn L l) (65535, 65535)
    dsimp only at e0 el
    rw [show n - 1 = l by omega] at RI NO
    clear hc hl
    by_cases hz : kn L 0 = (0, 0)
    · have b0 := (same2_iff _ _).2 hz
      rw [b0] at e0
      by_cases hu : kn L l = (65535, 65535)
      · have bl := (same2_iff _ _).2 hu
        rw [bl] at el
        have RIS := Lib.hid (fun (h : ∀ i, i < n → 0 < i → (kn L (i - 1)).2 < (kn L i).2) => RI.out.2 ⟨rfl, hz, hu, h⟩)
        have NOT := Lib.hid (fun (h : ¬ ∀ i, i < n → 0 < i → (kn L (i - 1)).2 < (kn L i).2) => NO.out fun ⟨_, _, _, h4⟩ => h h4)
        clear RI NO hz hu b0 bl
        generalize (kn L 0).1 = x0 at *
        generalize (kn L 0).2 = y0 at *
        generalize (kn L l).1 = xl at *
        generalize (kn L l).2 = yl at *
        go_enter Try.func14, Try.ntmps14
        go_wp2_with (go_at_call 12; fail)
        (with_reducible refine CK.out.mono ?_)
        rintro e w1 ⟨rfl, hg⟩
        obtain ⟨z0, z1, z2, z3⟩ := HC.out _ hg
        go_wp2
        clear e0 el z0 z1 z2 z3 HC nl nl2 hl2 CK
        go_loopw [3] (fun i wr => ∃ k : Nat, 1 ≤ k ∧ k ≤ n ∧ i = .int .i64 (k : Int) ∧ (∀ j, j < k → 0 < j → (kn L (j - 1)).2 < (kn L j).2) ∧ Below w.heap.size w wr) (fun i _ => (n - (intOf i).toNat))
        case atStart => exact ⟨1, by omega, by omega, rfl, fun j h1 h2 => by omega, hg⟩
        case round =>
          obtain ⟨k, h1k, hk, rfl, hi, hnx⟩ := hrel
          have HI := Lib.hid hi
          clear hi
          by_cases hlt : k < n
          · obtain ⟨m, hm⟩ : ∃ m, k = m + 1 := ⟨k - 1, by omega⟩
            obtain ⟨g', o', hgo, hblk', hc⟩ := H.out (by omega)
            obtain ⟨rfl, rfl⟩ : gb = g' ∧ o = o' := by simpa using hgo
            have f0 := (hnx.cell (p := ⟨gb, o + k * 2 + 1, none⟩) hblk).trans (hc k hlt).2
            have f1 := (hnx.cell (p := ⟨gb, o + m * 2 + 1, none⟩) hblk).trans (hc m (by omega)).2
            have kk : IntKind.i64.wrap ((k : Int) + 1) = (k : Int) + 1 := IntWalk.i64_in _ (by omega)
            have k1 : IntKind.i64.wrap ((k : Int) - 1) = (m : Int) := by rw [IntWalk.i64_in _ (by omega)]; omega
            have km : (k : Int) - 1 = (m : Int) := by omega
            have hm2 : (m : Int) < (n : Int) := by omega
            have NX := Lib.hid (fun (hb : (kn L m).2 < (kn L k).2) j (hj : j < k + 1) (h0 : 0 < j) => (show (kn L (j - 1)).2 < (kn L j).2 from by
              rcases Nat.lt_or_eq_of_le (Nat.le_of_lt_succ hj) with h | h
              · exact HI.out j h h0
              · rw [h, show k - 1 = m by omega]; exact hb))
            have ST := Lib.hid (fun (hb : ¬ (kn L m).2 < (kn L k).2) => NOT.out fun h => hb (by have := h k hlt (by omega); rwa [show k - 1 = m by omega] at this))
            clear hc hm HI hgo hblk'
            generalize (kn L m).2 = z at *
            generalize (kn L k).2 = y at *
            by_cases hyz : y ≤ z
            · have dz := decide_eq_true hyz
              have E := Lib.hid (ST.out (by omega))
              clear ST NX
              go_wp2
              go_quiet (fail)
              go_wp2
              go_ret
              exact ⟨ret_bool E.out.symm, bel_dr hnx _⟩
            · have dz := decide_eq_false (p := y ≤ z) hyz
              have E := Lib.hid (NX.out (by omega))
              clear ST NX
              go_wp2
              go_quiet (fail)
              go_wp2
              go_roundw
              case rel => exact ⟨k + 1, by omega, by omega, by simp, E.out, bel_dr hnx _⟩
              case measure => simp [intOf]; omega
          · obtain rfl : k = n := by omega
            have E := Lib.hid (RIS.out HI.out)
            clear HI
            go_wp2
            go_ret
            exact ⟨ret_bool E.out.symm, hnx⟩
      · have bl := same2_no hu
        rw [bl] at el
        have E := Lib.hid (NO.out fun ⟨_, _, h3, _⟩ => hu h3)
        clear RI NO hz hu b0 bl
        generalize (kn L 0).1 = x0 at *
        generalize (kn L 0).2 = y0 at *
        generalize (kn L l).1 = xl at *
        generalize (kn L l).2 = yl at *
        go_enter Try.func14, Try.ntmps14
        go_wp2_with (go_at_call 12; fail)
        (with_reducible refine CK.out.mono ?_)
        rintro e w1 ⟨rfl, hg⟩
        obtain ⟨z0, z1, z2, z3⟩ := HC.out _ hg
        go_wp2
        go_ret
        exact ⟨ret_bool E.out.symm, hg⟩
    · have b0 := same2_no hz
      rw [b0] at e0
      have E := Lib.hid (NO.out fun ⟨_, h2, _, _⟩ => hz h2)
      clear RI NO hz b0 el
      generalize (kn L 0).1 = x0 at *
      generalize (kn L 0).2 = y0 at *
      go_enter Try.func14, Try.ntmps14
      go_wp2_with (go_at_call 12; fail)
      (with_reducible refine CK.out.mono ?_)
      rintro e w1 ⟨rfl, hg⟩
      obtain ⟨z0, z1, z2, z3⟩ := HC.out _ hg
      clear z2 z3
      go_wp2
      go_ret
      exact ⟨ret_bool E.out.symm, hg⟩
  · have R := Lib.hid (NO.out fun ⟨h1, _⟩ => h0 (hE.symm.trans h1))
    rw [hE, hn] at CK
    rw [hn]
    have nE : (E == 0) = false := by simpa using h0
    clear h RI NO hE
    go_enter Try.func14, Try.ntmps14
    go_wp2_with (go_at_call 12; fail)
    (with_reducible refine CK.out.mono ?_)
    rintro e w1 ⟨rfl, hg⟩
    go_wp2
    go_ret
    exact ⟨ret_bool R.out.symm, hg⟩

end Go.Proofs.Ytnjkbmkbifbgkaa
