import Derived.Test.YtmekcgbljpeglaaDoorProg
import Derived.WalkKit
import Derived.WalkLawsBesides
import Derived.Outline
import Derived.Lib.Walk
import Derived.Deep.QuietTactic
import Derived.BigQuiet
import Derived.RowKit3
import Derived.Deep.LoopGhost
import Derived.Laws.Rows
import Derived.Laws.Tables
import Derived.Laws.CopyOwn
import Derived.Lib.Hide
import Derived.Handy
import Derived.Deep.Onto
import Derived.IntWalk
import Derived.Laws.BitsAllLaws
import Derived.Test.YtmekcgbljpeglaaDoorA1
import Derived.Test.YtmekcgbljpeglaaDoorA2
import Derived.Test.YtmekcgbljpeglaaDoorQT
import Derived.Test.YtmekcgbljpeglaaDoorT1
import Derived.Test.YtmekcgbljpeglaaDoorS5
namespace Go.Proofs.YtmekcgbljpeglaaDoor
open Go.RowKit
set_option maxHeartbeats 400000
set_option linter.unusedVariables false

theorem cutD : ∀ k : Fin 16, (⟨#[48, 49, 50, 51, 52, 53, 54, 55, 56, 57, 97, 98, 99, 100, 101, 102]⟩ : ByteArray).extract k.val (k.val + 1) = mkS [dgt k.val] := by decide +kernel
theorem s54 (n : Nat) (hn : n < 256) (w : World) : Calls Tryd.prog 54 #[.int .i64 (n : Int)] w fun e w' => e = .returned (.string (mkS (hx2 n))) ∧ ∃ k, w' = w.drewN k := by
  obtain ⟨h1, q1⟩ : ∃ h1, h1 = n / 16 := ⟨_, rfl⟩
  obtain ⟨h2, q2⟩ : ∃ h2, h2 = n % 16 := ⟨_, rfl⟩
  have b1 : h1 < 16 := by omega
  have b2 : h2 < 16 := by omega
  have x1 := cutD ⟨h1, b1⟩
  have x2 := cutD ⟨h2, b2⟩
  simp only at x1 x2
  have hr : mkS [dgt h1] ++ mkS [dgt h2] = mkS (hx2 n) := by rw [mkS_append, q1, q2]; rfl
  have z1 : (mkS [dgt h1]).size = 1 := rfl
  have z2 : (mkS [dgt h2]).size = 1 := rfl
  generalize mkS [dgt h1] = E1 at *
  generalize mkS [dgt h2] = E2 at *
  generalize mkS (hx2 n) = R at *
  obtain ⟨k1, g1⟩ : ∃ k1, k1 = h1 + 1 := ⟨_, rfl⟩
  obtain ⟨k2, g2⟩ : ∃ k2, k2 = h2 + 1 := ⟨_, rfl⟩
  rw [← g1] at x1
  rw [← g2] at x2
  have t1 : (n : Int).tdiv 16 = (h1 : Int) := by rw [Int.tdiv_eq_ediv_of_nonneg (by omega)]; omega
  have t1' : (n : Int) / 16 = (h1 : Int) := by omega
  have t2 : (n : Int).tmod 16 = (h2 : Int) := by rw [Int.tmod_eq_emod_of_nonneg (by omega)]; omega
  have t2' : (n : Int) % 16 = (h2 : Int) := by omega
  have w1 : IntKind.i64.wrap (h1 : Int) = (h1 : Int) := IntWalk.i64_in _ (by omega)
  have w2 : IntKind.i64.wrap ((h1 : Int) + 1) = (k1 : Int) := by rw [IntWalk.i64_in _ (by omega)]; omega
  have w3 : IntKind.i64.wrap (h2 : Int) = (h2 : Int) := IntWalk.i64_in _ (by omega)
  have w4 : IntKind.i64.wrap ((h2 : Int) + 1) = (k2 : Int) := by rw [IntWalk.i64_in _ (by omega)]; omega
  have l1 : (h1 : Int) ≤ (k1 : Int) := by omega
  have l2 : (k1 : Int) ≤ 16 := by omega
  have l3 : (h2 : Int) ≤ (k2 : Int) := by omega
  have l4 : (k2 : Int) ≤ 16 := by omega
  have l1n : h1 ≤ k1 := by omega
  have l2n : k1 ≤ 16 := by omega
  have l3n : h2 ≤ k2 := by omega
  have l4n : k2 ≤ 16 := by omega
  clear q1 q2 g1 g2 b1 b2 hn
  go_enter Tryd.func54, Tryd.ntmps54
  go_wp2_with fail
  go_quiet (fail)
  go_wp2
  go_ret
  exact ⟨rfl, _, rfl⟩
theorem s35 (p : Px) (w : World) : Calls Tryd.prog 35 #[p.val] w fun e w' => e = .returned (.string (mkS p.txt)) ∧ Below w.heap.size w w' := by
  obtain ⟨r, g, b, a⟩ := p
  have c1 : ∀ v w, Calls Tryd.prog 31 #[.int .i64 v] w fun e w' => e = .returned (.int .i64 (t8 v : Int)) ∧ ∃ k, w' = w.drewN k := fun v w => by rw [← t8_eq]; exact s31 v w
  have d1 : ∀ v w, Calls Tryd.prog 54 #[.int .i64 (t8 v : Int)] w fun e w' => e = .returned (.string (mkS (hx2 (t8 v)))) ∧ ∃ k, w' = w.drewN k := fun v w => s54 (t8 v) (t8_lt v) w
  have y0 : (⟨#[35]⟩ : ByteArray) ++ mkS (hx2 (t8 r)) = mkS (35 :: hx2 (t8 r)) := mkS_append [35] _
  have y1 : mkS (35 :: hx2 (t8 r)) ++ mkS (hx2 (t8 g)) = mkS (35 :: (hx2 (t8 r) ++ hx2 (t8 g))) := mkS_append _ _
  have y2 : mkS (35 :: (hx2 (t8 r) ++ hx2 (t8 g))) ++ mkS (hx2 (t8 b)) = mkS (35 :: (hx2 (t8 r) ++ hx2 (t8 g) ++ hx2 (t8 b))) := mkS_append _ _
  have y3 : mkS (35 :: (hx2 (t8 r) ++ hx2 (t8 g) ++ hx2 (t8 b))) ++ mkS (hx2 (t8 a)) = mkS (Px.txt ⟨r, g, b, a⟩) := by rw [mkS_append]; simp [Px.txt]
  have z0 : (mkS (hx2 (t8 r))).size = 2 := rfl
  have z1 : (mkS (hx2 (t8 g))).size = 2 := rfl
  have z2 : (mkS (hx2 (t8 b))).size = 2 := rfl
  have z3 : (mkS (hx2 (t8 a))).size = 2 := rfl
  have u0 : (mkS (35 :: hx2 (t8 r))).size = 3 := rfl
  have u1 : (mkS (35 :: (hx2 (t8 r) ++ hx2 (t8 g)))).size = 5 := rfl
  have u2 : (mkS (35 :: (hx2 (t8 r) ++ hx2 (t8 g) ++ hx2 (t8 b)))).size = 7 := rfl
  have Cr := c1 r; have Cg := c1 g; have Cb := c1 b; have Ca := c1 a
  have Dr := d1 r; have Dg := d1 g; have Db := d1 b; have Da := d1 a
  clear c1 d1
  unfold Px.val
  dsimp only
  generalize mkS (Px.txt ⟨r, g, b, a⟩) = T at *
  generalize mkS (35 :: (hx2 (t8 r) ++ hx2 (t8 g) ++ hx2 (t8 b))) = Y2 at *
  generalize mkS (35 :: (hx2 (t8 r) ++ hx2 (t8 g))) = Y1 at *
  generalize mkS (35 :: hx2 (t8 r)) = Y0 at *
  generalize mkS (hx2 (t8 r)) = X0 at *
  generalize mkS (hx2 (t8 g)) = X1 at *
  generalize mkS (hx2 (t8 b)) = X2 at *
  generalize mkS (hx2 (t8 a)) = X3 at *
  generalize (t8 r : Int) = tr at *
  generalize (t8 g : Int) = tg at *
  generalize (t8 b : Int) = tb at *
  generalize (t8 a : Int) = ta at *
  replace Cr := Lib.hid Cr; replace Cg := Lib.hid Cg; replace Cb := Lib.hid Cb; replace Ca := Lib.hid Ca
  replace Dr := Lib.hid Dr; replace Dg := Lib.hid Dg; replace Db := Lib.hid Db; replace Da := Lib.hid Da
  go_enter Tryd.func35, Tryd.ntmps35
  go_wp2_with fail
  go_quiet (first | (go_at_call 31; with_reducible exact Calls.quiet_of (Cr.out _)) | (go_at_call 31; with_reducible exact Calls.quiet_of (Cg.out _)) | (go_at_call 31; with_reducible exact Calls.quiet_of (Cb.out _)) | (go_at_call 31; with_reducible exact Calls.quiet_of (Ca.out _)) | (go_at_call 54; with_reducible exact Calls.quiet_of (Dr.out _)) | (go_at_call 54; with_reducible exact Calls.quiet_of (Dg.out _)) | (go_at_call 54; with_reducible exact Calls.quiet_of (Db.out _)) | (go_at_call 54; with_reducible exact Calls.quiet_of (Da.out _)))
  go_wp2
  go_ret
  exact ⟨rfl, bel_dr (bel_al (Below.refl _ _) _) _⟩
/-- a digit's value, or -1. -/
def valD (c : UInt8) : Int := match hexv c.toNat with | some d => (d : Int) | none => -1
theorem s53 (c : UInt8) (w : World) : Calls Tryd.prog 53 #[.int .u8 (c.toNat : Int)] w fun e w' => e = .returned (.int .i64 (valD c)) ∧ w = w' := by
  have hl : c.toNat < 256 := c.toNat_lt
  unfold valD hexv
  generalize c.toNat = n at *
  by_cases h1 : 48 ≤ n ∧ n ≤ 57
  · rw [if_pos h1]
    have i1 : (48 : Int) ≤ (n : Int) := by omega
    have i2 : (n : Int) ≤ 57 := by omega
    have e1 : IntKind.u8.wrap ((n : Int) - 48) = (n : Int) - 48 := by rw [IntKind.wrap_u8']; omega
    have e2 : ((n - 48 : Nat) : Int) = (n : Int) - 48 := by omega
    have e3 : IntKind.i64.wrap ((n : Int) - 48) = (n : Int) - 48 := IntWalk.i64_in _ (by omega)
    dsimp only
    rw [e2]
    clear h1 e2
    go_enter Tryd.func53, Tryd.ntmps53
    go_wp2
    go_ret
    exact ⟨rfl, rfl⟩
  · rw [if_neg h1]
    have hA : (decide ((48 : Int) ≤ (n : Int)) = false) ∨ ((48 : Int) ≤ (n : Int) ∧ decide ((n : Int) ≤ 57) = false) := by
      by_cases h : 48 ≤ n
      · exact Or.inr ⟨by omega, decide_eq_false (by omega)⟩
      · exact Or.inl (decide_eq_false (by omega))
    by_cases h2 : 97 ≤ n ∧ n ≤ 102
    · rw [if_pos h2]
      have i1 : (97 : Int) ≤ (n : Int) := by omega
      have i2 : (n : Int) ≤ 102 := by omega
      have i3 : (48 : Int) ≤ (n : Int) := by omega
      have i4 : decide ((n : Int) ≤ 57) = false := decide_eq_false (by omega)
      have e1 : IntKind.u8.wrap ((n : Int) - 97) = (n : Int) - 97 := by rw [IntKind.wrap_u8']; omega
      have e3 : IntKind.i64.wrap ((n : Int) - 97) = (n : Int) - 97 := IntWalk.i64_in _ (by omega)
      have e4 : IntKind.i64.wrap ((n : Int) - 97 + 10) = ((n - 87 : Nat) : Int) := by rw [IntWalk.i64_in _ (by omega)]; omega
      obtain ⟨D, hD⟩ : ∃ D : Int, D = ((n - 87 : Nat) : Int) := ⟨_, rfl⟩
      dsimp only
      rw [← hD] at e4 ⊢
      clear h1 h2 hA hD
      go_enter Tryd.func53, Tryd.ntmps53
      go_wp2
      go_ret
      exact ⟨rfl, rfl⟩
    · rw [if_neg h2]
      have hB : (decide ((97 : Int) ≤ (n : Int)) = false) ∨ ((97 : Int) ≤ (n : Int) ∧ decide ((n : Int) ≤ 102) = false) := by
        by_cases h : 97 ≤ n
        · exact Or.inr ⟨by omega, decide_eq_false (by omega)⟩
        · exact Or.inl (decide_eq_false (by omega))
      by_cases h3 : 65 ≤ n ∧ n ≤ 70
      · rw [if_pos h3]
        have i1 : (65 : Int) ≤ (n : Int) := by omega
        have i2 : (n : Int) ≤ 70 := by omega
        have i3 : (48 : Int) ≤ (n : Int) := by omega
        have i4 : decide ((n : Int) ≤ 57) = false := decide_eq_false (by omega)
        have i5 : decide ((97 : Int) ≤ (n : Int)) = false := decide_eq_false (by omega)
        have e1 : IntKind.u8.wrap ((n : Int) - 65) = (n : Int) - 65 := by rw [IntKind.wrap_u8']; omega
        have e3 : IntKind.i64.wrap ((n : Int) - 65) = (n : Int) - 65 := IntWalk.i64_in _ (by omega)
        have e4 : IntKind.i64.wrap ((n : Int) - 65 + 10) = ((n - 55 : Nat) : Int) := by rw [IntWalk.i64_in _ (by omega)]; omega
        obtain ⟨D, hD⟩ : ∃ D : Int, D = ((n - 55 : Nat) : Int) := ⟨_, rfl⟩
        dsimp only
        rw [← hD] at e4 ⊢
        clear h1 h2 h3 hA hB hD
        go_enter Tryd.func53, Tryd.ntmps53
        go_wp2
        go_ret
        exact ⟨rfl, rfl⟩
      · rw [if_neg h3]
        have hC : (decide ((65 : Int) ≤ (n : Int)) = false) ∨ ((65 : Int) ≤ (n : Int) ∧ decide ((n : Int) ≤ 70) = false) := by
          by_cases h : 65 ≤ n
          · exact Or.inr ⟨by omega, decide_eq_false (by omega)⟩
          · exact Or.inl (decide_eq_false (by omega))
        clear h1 h2 h3
        rcases hA with hA | ⟨hA, hA'⟩ <;> rcases hB with hB | ⟨hB, hB'⟩ <;> rcases hC with hC | ⟨hC, hC'⟩
        all_goals
          go_enter Tryd.func53, Tryd.ntmps53
          go_wp2
          go_ret
          exact ⟨rfl, rfl⟩

end Go.Proofs.YtmekcgbljpeglaaDoor
