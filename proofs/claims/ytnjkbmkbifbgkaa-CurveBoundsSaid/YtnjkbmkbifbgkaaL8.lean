import Derived.Test.YtnjkbmkbifbgkaaProg
import Derived.WalkKit
import Derived.WalkLawsBesides
import Derived.Outline
import Derived.Lib.Walk
import Derived.Deep.QuietTactic
import Derived.BigQuiet
import Derived.RowKit3
import Derived.Deep.LoopGhost
import Derived.Laws.Rows
import Derived.Laws.Tables
import Derived.Laws.CopyOwn
import Derived.Lib.Hide
import Derived.Handy
import Derived.Deep.Onto
import Derived.Deep.RegionHeld3
import Derived.Test.YtnjkbmkbifbgkaaAW
import Derived.Test.YtnjkbmkbifbgkaaS19
namespace Go.Proofs.Ytnjkbmkbifbgkaa
open Go.RowKit
set_option maxHeartbeats 400000
set_option linter.unusedVariables false

theorem SX.tr {w W W' : World} {g i j : Nat} {x y : Int} (hg : g < w.heap.size) (h : SX w g i j x y W) (hb : Below W.heap.size W W') : SX w g i j x y W' := by
  have hl : g < W.heap.size := Nat.lt_of_lt_of_le hg h.1.size
  exact ⟨bel_trans h.1 hb, (hb.cell (p := ⟨g, i, none⟩) hl).trans h.2.1, (hb.cell (p := ⟨g, j, none⟩) hl).trans h.2.2⟩
theorem min_f {a b : Int} (h : a ≤ b) : min a b = a := by omega

set_option maxHeartbeats 8000000 in
theorem l8 (v : Value) (L : KL) (x y : Int) (w : World) (h : argK w w.heap.size v L) :
    Calls Try.prog 8 #[v, .int .i64 x, .int .i64 y] w fun e w' => e = .returned (.bool true) ∧ Below w.heap.size w w' := by
  have B0 : Below w.heap.size w w := Below.refl _ _
  have A15 := Lib.hid (fun w => l15 w)
  have H12 := Lib.hid (fun W (hW : Below w.heap.size w W) => s12 v L W (h.up hW hW.size))
  have HA := Lib.hid (fun t W (hW : Below w.heap.size w W) => k16 v L t W (h.up hW hW.size))
  obtain ⟨E, hE⟩ : ∃ E, chk L = E := ⟨_, rfl⟩
  rw [hE] at H12
  by_cases h0 : E = 0
  · have gd := chk_good (hE.trans h0)
    have g2 := gd.two
    have g16 := gd.some
    have BD := Lib.hid (fun lo hi t hb => atF_bounds (L := L) (x := t) (lo := lo) (hi := hi) (hE.trans h0) hb)
    have MO := Lib.hid (fun hu => atF_mono (L := L) (x := min x y) (y := max x y) (hE.trans h0) hu (by omega))
    have KN := Lib.hid (fun i hi => atF_knot (L := L) (hE.trans h0) (i := i) hi)
    subst h0
    obtain ⟨ao, cap, rfl, h⟩ := h
    obtain ⟨n, hn⟩ : ∃ n, L.length = n := ⟨_, rfl⟩
    rw [hn] at h H12 HA g2 g16 BD MO KN ⊢
    obtain ⟨g, o, rfl, hblk, hc⟩ := h (by omega)
    have HC := Lib.hid hc
    have HS := Lib.hid (fun k (hk : k < n) (W : World) (hW : Below w.heap.size w W) => (⟨hW, (hW.cell (p := ⟨g, o + k * 2, none⟩) hblk).trans (hc k hk).1, (hW.cell (p := ⟨g, o + k * 2 + 1, none⟩) hblk).trans (hc k hk).2⟩ : SX w g (o + k * 2) (o + k * 2 + 1) (kn L k).1 (kn L k).2 W))
    clear h hE gd hn hc
    obtain ⟨a, ha⟩ : ∃ a, atF L (min x y) = a := ⟨_, rfl⟩
    obtain ⟨c, hc⟩ : ∃ c, atF L (max x y) = c := ⟨_, rfl⟩
    have Ha := HA.out (min x y)
    have Hc := HA.out (max x y)
    rw [ha] at Ha MO
    rw [hc] at Hc MO
    have BA := Lib.hid (fun lo hi hb => (BD.out lo hi (min x y) hb))
    have BC := Lib.hid (fun lo hi hb => (BD.out lo hi (max x y) hb))
    rw [ha] at BA
    rw [hc] at BC
    have HAa := Lib.hid Ha
    have HAc := Lib.hid Hc
    clear Ha Hc ha hc BD
    obtain ⟨mn, hmn⟩ : ∃ mn, mn = min x y := ⟨_, rfl⟩
    obtain ⟨mx, hmx⟩ : ∃ mx, mx = max x y := ⟨_, rfl⟩
    rw [← hmn] at HAa
    rw [← hmx] at HAc
    have hmn' := hmn.symm
    have hmx' := hmx.symm
    clear hmn hmx
    have hn0 : (0 : Int) < (n : Int) := by omega
    go_enter Try.func8, Try.ntmps8
    go_wp2_with (go_at_call 12; fail)
    (with_reducible refine (H12.out _ B0).mono ?_)
    rintro e1 w1 ⟨rfl, hg⟩
    have B1 := bel_trans B0 hg
    clear hg B0
    have f0 := (HS.out 0 (by omega) _ B1).2.2
    simp only [Nat.zero_mul, Nat.add_zero] at f0
    obtain ⟨y0, hy0⟩ : ∃ y0, (kn L 0).2 = y0 := ⟨_, rfl⟩
    rw [hy0] at f0
    have HY := Lib.hid hy0
    clear hy0
    go_wp2
    go_quiet (fail)
    go_wp2
    have B2 := bel_dr B1 nq
    clear f0 B1 H12
    go_loopw [7, 8, 9, 10] (fun s7 s8 s9 i wr => ∃ (k : Nat) (lo hi : Int) (up : Bool), k ≤ n ∧ i = .int .i64 (k : Int) ∧ s7 = .int .i64 lo ∧ s8 = .int .i64 hi ∧ s9 = .bool up ∧ (∀ j, j < k → lo ≤ (kn L j).2 ∧ (kn L j).2 ≤ hi) ∧ (up = true → ∀ j, 0 < j → j < k → (kn L (j - 1)).2 ≤ (kn L j).2) ∧ Below w.heap.size w wr) (fun _ _ _ i _ => (n - (intOf i).toNat))
    case atStart => exact ⟨0, y0, y0, true, by omega, rfl, rfl, rfl, rfl, fun j hj => absurd hj (Nat.not_lt_zero j), fun _ j h1 h2 => absurd h2 (Nat.not_lt_zero j), B2⟩
    case round =>
      obtain ⟨k, lo, hi, up, hk, rfl, rfl, rfl, rfl, hb, hu, hnx⟩ := hrel
      clear B2 HY
      have HBd := Lib.hid hb
      have HUp := Lib.hid hu
      clear hb hu
      by_cases hlt : k < n
      · have hS := HS.out k hlt
        have ky := KN.out k hlt
        have hak := HA.out (kn L k).1
        rw [ky] at hak
        have kk : IntKind.i64.wrap ((k : Int) + 1) = (k : Int) + 1 := IntWalk.i64_in _ (by omega)
        have hkn : (k : Int) < (n : Int) := by omega
        have NB := Lib.hid (fun (j : Nat) (hj : j < k + 1) => (show min lo (kn L k).2 ≤ (kn L j).2 ∧ (kn L j).2 ≤ max hi (kn L k).2 from by
          rcases Nat.lt_or_eq_of_le (Nat.le_of_lt_succ hj) with h | h
          · have := HBd.out j h; omega
          · subst h; omega))
        have NU := Lib.hid (fun (b : Bool) (hb : b = true → up = true) (hb2 : b = true → 0 < k → (kn L (k - 1)).2 ≤ (kn L k).2) (ht : b = true) (j : Nat) (h0 : 0 < j) (hj : j < k + 1) => (show (kn L (j - 1)).2 ≤ (kn L j).2 from by
          rcases Nat.lt_or_eq_of_le (Nat.le_of_lt_succ hj) with h | h
          · exact HUp.out (hb ht) j h0 h
          · subst h; exact hb2 ht h0))
        have hprev := Lib.hid (fun m (hm : k = m + 1) W hW => (HS.out m (by omega) W hW).2.2)
        obtain ⟨xk, hxk⟩ : ∃ xk, (kn L k).1 = xk := ⟨_, rfl⟩
        obtain ⟨yk, hyk⟩ : ∃ yk, (kn L k).2 = yk := ⟨_, rfl⟩
        rw [hxk, hyk] at hak
        rw [hxk, hyk] at hS
        rw [hyk] at NB NU
        have HSk := Lib.hid hS
        have HAk := Lib.hid (fun W (hX : SX w g (o + k * 2) (o + k * 2 + 1) xk yk W) => hak W hX.1)
        clear hS hak ky hxk hyk KN HBd HUp
        obtain ⟨lo', hlo⟩ : ∃ lo', lo' = min lo yk := ⟨_, rfl⟩
        obtain ⟨hi', hhi⟩ : ∃ hi', hi' = max hi yk := ⟨_, rfl⟩
        rw [← hlo, ← hhi] at NB
        have hlo' := hlo.symm
        have hhi' := hhi.symm
        clear hlo hhi
        obtain ⟨_, f0, f1⟩ := HSk.out _ hnx
        go_wp2
        go_quiet (fail)
        have hS0 : SX w g (o + k * 2) (o + k * 2 + 1) xk yk (wr.drewN (nq + 1)) := HSk.out _ (bel_dr hnx (nq + 1))
        have hS1 : SX w g (o + k * 2) (o + k * 2 + 1) xk yk (wr.drewN nq).drew := HSk.out _ (bel_dr (bel_dr hnx nq) 1)
        clear f0 f1
        go_wp2_with fail
        go_region_held3 (fun W => SX w g (o + k * 2) (o + k * 2 + 1) xk yk W)
          (first | exact hS0 | exact hS1 | assumption | exact SX.tr hblk (by assumption) hg)
          (first | (go_at_call 16; (with_reducible refine (HAk.out _ (by assumption)).mono ?_); rintro e w5 ⟨rfl, hg⟩))
        all_goals
          rename_i W5 hS5
          obtain ⟨B5, f0, f1⟩ := hS5
          clear HSk hS0 hS1 HAk
          by_cases hk0 : 0 < k
          · obtain ⟨m, hm⟩ : ∃ m, k = m + 1 := ⟨k - 1, by omega⟩
            have f2 := hprev.out m hm _ B5
            have k1 : IntKind.i64.wrap ((k : Int) - 1) = (m : Int) := by rw [IntWalk.i64_in _ (by omega)]; omega
            have km : (k : Int) - 1 = (m : Int) := by omega
            have kw : IntKind.i64.wrap (m : Int) = (m : Int) := IntWalk.i64_in _ (by omega)
            have d0 : decide ((0 : Int) < (k : Int)) = true := decide_eq_true (by omega)
            have hm2 : (m : Int) < (n : Int) := by omega
            rw [show k - 1 = m by omega] at NU
            obtain ⟨z, hz⟩ : ∃ z, (kn L m).2 = z := ⟨_, rfl⟩
            rw [hz] at f2 NU
            clear hz hprev hm
            by_cases hyz : yk < z
            · have dz := decide_eq_true hyz
              go_wp2
              go_quiet (fail)
              go_wp2
              go_roundw
              case rel => exact ⟨k + 1, lo', hi', false, by omega, by simp, rfl, rfl, rfl, NB.out, NU.out false (fun h => by cases h) (fun h => by cases h), bel_dr B5 _⟩
              case measure => simp [intOf]; omega
            · have dz := decide_eq_false hyz
              go_wp2
              go_quiet (fail)
              go_wp2
              go_roundw
              case rel => exact ⟨k + 1, lo', hi', up, by omega, by simp, rfl, rfl, rfl, NB.out, NU.out up (fun h => h) (fun _ _ => by omega), bel_dr B5 _⟩
              case measure => simp [intOf]; omega
          · have d0 : decide ((0 : Int) < (k : Int)) = false := decide_eq_false (by omega)
            clear hprev
            go_wp2
            go_quiet (fail)
            go_wp2
            go_roundw
            case rel => exact ⟨k + 1, lo', hi', up, by omega, by simp, rfl, rfl, rfl, NB.out, NU.out up (fun h => h) (fun _ h => absurd h hk0), bel_dr B5 _⟩
            case measure => simp [intOf]; omega
      · obtain rfl : k = n := by omega
        obtain ⟨p1, p2⟩ := BA.out lo hi HBd.out
        obtain ⟨p3, p4⟩ := BC.out lo hi HBd.out
        have q1 : decide (lo ≤ a) = true := decide_eq_true p1
        have q2 : decide (a ≤ hi) = true := decide_eq_true p2
        have q3 : decide (lo ≤ c) = true := decide_eq_true p3
        have q4 : decide (c ≤ hi) = true := decide_eq_true p4
        have MU := Lib.hid (fun (h : up = true) => MO.out (fun i h0 hi => HUp.out h i h0 hi))
        clear BA BC MO HUp HBd KN HS HC HA p1 p2 p3 p4
        cases up
        · clear MU
          go_wp2_with (go_at_call 16; fail)
          (with_reducible refine (HAa.out _ hnx).mono ?_)
          rintro e2 w2 ⟨rfl, hg⟩
          have B3 := bel_trans hnx hg
          clear hg
          go_wp2_with (go_at_call 16; fail)
          (with_reducible refine (HAc.out _ B3).mono ?_)
          rintro e3 w3 ⟨rfl, hg⟩
          have B4 := bel_trans B3 hg
          clear hg
          go_wp2_with (go_at_call 15; fail)
          (with_reducible refine (A15.out _).mono ?_)
          rintro e4 w4 ⟨rfl, hg⟩
          have B5 := bel_trans B4 hg
          go_wp2
          go_ret
          exact ⟨rfl, B5⟩
        · have q5 : decide (a ≤ c) = true := decide_eq_true (MU.out rfl)
          clear MU
          go_wp2_with (go_at_call 16; fail)
          (with_reducible refine (HAa.out _ hnx).mono ?_)
          rintro e2 w2 ⟨rfl, hg⟩
          have B3 := bel_trans hnx hg
          clear hg
          go_wp2_with (go_at_call 16; fail)
          (with_reducible refine (HAc.out _ B3).mono ?_)
          rintro e3 w3 ⟨rfl, hg⟩
          have B4 := bel_trans B3 hg
          clear hg
          go_wp2_with (go_at_call 15; fail)
          (with_reducible refine (A15.out _).mono ?_)
          rintro e4 w4 ⟨rfl, hg⟩
          have B5 := bel_trans B4 hg
          go_wp2
          go_ret
          exact ⟨rfl, B5⟩
  · have nE : (E == 0) = false := by simpa using h0
    obtain ⟨ao, cap, rfl, h⟩ := h
    clear h
    generalize L.length = n at *
    clear hE HA
    go_enter Try.func8, Try.ntmps8
    go_wp2_with (go_at_call 12; fail)
    (with_reducible refine (H12.out _ B0).mono ?_)
    rintro e1 w1 ⟨rfl, hg⟩
    have B1 := bel_trans B0 hg
    clear hg B0
    go_wp2_with (go_at_call 15; fail)
    (with_reducible refine (A15.out _).mono ?_)
    rintro e2 w2 ⟨rfl, hg⟩
    have B2 := bel_trans B1 hg
    go_wp2
    go_ret
    exact ⟨rfl, B2⟩

end Go.Proofs.Ytnjkbmkbifbgkaa
