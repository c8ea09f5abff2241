import Derived.Test.YtbkhfebopmeanaaProg
import Derived.WalkKit
import Derived.WalkLawsBesides
import Derived.Outline
import Derived.Lib.Walk
import Derived.Deep.QuietTactic
import Derived.BigQuiet
import Derived.RowKit3
import Derived.Deep.LoopGhost
import Derived.Great.Walk
import Derived.Great.BuildSlice
import Derived.Laws.Rows
import Derived.Laws.Tables
import Derived.Laws.CopyOwn
import Derived.Lib.Hide
import Derived.Handy
import Derived.Deep.RegionHeld3
import Derived.BigRegion
import Derived.Test.YtbkhfebopmeanaaV2
import Derived.Test.YtbkhfebopmeanaaV3
import Derived.Test.YtbkhfebopmeanaaV4
import Derived.Test.YtbkhfebopmeanaaVI
import Derived.Test.YtbkhfebopmeanaaVA
import Derived.Test.YtbkhfebopmeanaaVN
import Derived.Test.YtbkhfebopmeanaaVO
import Derived.Test.YtbkhfebopmeanaaVL
import Derived.Test.YtbkhfebopmeanaaVU
namespace Go.Proofs.Ytbkhfebopmeanaa
open Go.RowKit
set_option maxHeartbeats 400000
set_option linter.unusedVariables false
theorem small_emp {X Y a b : Int} (h1 : -5000 ≤ X ∧ X ≤ 5000) (h2 : -5000 ≤ Y ∧ Y ≤ 5000) (h3 : 1 ≤ a ∧ a ≤ 5000) (h4 : 1 ≤ b ∧ b ≤ 5000) : Rc.emp ⟨X, Y, a, b⟩ = false := by
  unfold Rc.emp Rc.vld
  simp
  omega
theorem small_move {X Y a b P Q : Int} (h1 : -2000 ≤ X ∧ X ≤ 2000) (h2 : -2000 ≤ Y ∧ Y ≤ 2000) (h3 : 1 ≤ a ∧ a ≤ 1000) (h4 : 1 ≤ b ∧ b ≤ 1000) (h5 : -1000 ≤ P ∧ P ≤ 1000) (h6 : -1000 ≤ Q ∧ Q ≤ 1000) : Rc.move ⟨X, Y, a, b⟩ P Q = ⟨X + P, Y + Q, a, b⟩ := by
  have he := small_emp (X := X) (Y := Y) (a := a) (b := b) (by omega) (by omega) (by omega) (by omega)
  obtain ⟨_, e1, e2, e3, e4⟩ := sol_x0 ⟨X, Y, a, b⟩ he
  unfold Rc.move
  rw [he, e1, e2, e3, e4]
  unfold wrl rcOf lim
  simp only [Bool.false_eq_true, if_false]
  rw [if_neg (by omega)]
  congr 1 <;> omega
theorem small_grow {X Y a b n : Int} (h1 : -2000 ≤ X ∧ X ≤ 2000) (h2 : -2000 ≤ Y ∧ Y ≤ 2000) (h3 : 1 ≤ a ∧ a ≤ 2000) (h4 : 1 ≤ b ∧ b ≤ 2000) (h5 : -500 ≤ n ∧ n ≤ 500) (h6 : 1 ≤ a + 2 * n ∧ 1 ≤ b + 2 * n) : Rc.grow ⟨X, Y, a, b⟩ n = ⟨X - n, Y - n, a + 2 * n, b + 2 * n⟩ := by
  have he := small_emp (X := X) (Y := Y) (a := a) (b := b) (by omega) (by omega) (by omega) (by omega)
  obtain ⟨_, e1, e2, e3, e4⟩ := sol_x0 ⟨X, Y, a, b⟩ he
  unfold Rc.grow
  rw [he, e1, e2, e3, e4]
  unfold wrl rcOf lim
  simp only [Bool.false_eq_true, if_false]
  rw [if_neg (by omega)]
  congr 1 <;> omega
theorem small_area {X Y a b : Int} (h1 : -5000 ≤ X ∧ X ≤ 5000) (h2 : -5000 ≤ Y ∧ Y ≤ 5000) (h3 : 1 ≤ a ∧ a ≤ 5000) (h4 : 1 ≤ b ∧ b ≤ 5000) : Rc.area ⟨X, Y, a, b⟩ = a * b := by
  unfold Rc.area
  rw [small_emp h1 h2 h3 h4]
  rfl
theorem rem_world {W : World} {k j : Nat} {x y a b p q x' y' p' q' : Int} (h : rec4 W k x y a b) (g : rec2 W j p q) (hj : j ≠ k) :
    rec4 ((((W.setCell ⟨k, 0, none⟩ (.int .i64 x')).setCell ⟨k, 1, none⟩ (.int .i64 y')).setCell ⟨j, 0, none⟩ (.int .i64 p')).setCell ⟨j, 1, none⟩ (.int .i64 q')) k x' y' a b ∧
    rec2 ((((W.setCell ⟨k, 0, none⟩ (.int .i64 x')).setCell ⟨k, 1, none⟩ (.int .i64 y')).setCell ⟨j, 0, none⟩ (.int .i64 p')).setCell ⟨j, 1, none⟩ (.int .i64 q')) j p' q' := by
  obtain ⟨⟨h0, h1, h2, h3⟩, f0, f1, f2, f3⟩ := h
  obtain ⟨⟨g0, g1⟩, e0, e1⟩ := g
  unfold rec4 rec2
  simp [go_sem, h0, h1, h2, h3, f0, f1, f2, f3, g0, g1, e0, e1, hj, Ne.symm hj]
theorem tmod_lo (x : Int) : -1000 < x.tmod 1000 := by
  have h := Int.tmod_lt_of_pos (-x) (b := 1000) (by omega)
  rw [Int.neg_tmod] at h
  omega
set_option maxHeartbeats 4000000 in
theorem backL (x y a b p q n : Int) (w : World) (hx : -9223372036854775808 ≤ x ∧ x ≤ 9223372036854775807) (hy : -9223372036854775808 ≤ y ∧ y ≤ 9223372036854775807) (hp : -9223372036854775808 ≤ p ∧ p ≤ 9223372036854775807) (hq : -9223372036854775808 ≤ q ∧ q ≤ 9223372036854775807) (hn : 0 ≤ n ∧ n ≤ 255) : Calls Try.prog 11 #[.agg #[.int .i64 x, .int .i64 y, .int .i64 a, .int .i64 b], .agg #[.int .i64 p, .int .i64 q], .int .u8 n] w fun e w' => e = .returned (.bool true) ∧ Below w.heap.size w w' := by
  have C0 := Lib.hid awk
  obtain ⟨hn1, hn2⟩ := hn
  go_enter Try.func11, Try.ntmps11
  go_wp2_with (first | (go_at_call 12; ((with_reducible refine (C0.out _).mono ?_)); rintro e w1 ⟨rfl, hg⟩; have hs := hg.size; (try simp at hs); have r0 : rec4 w1 w.heap.size x y a b := rec4.below (rec4.alloc (rec4.new _ _ _ _ _ _) _ (by simp)) hg (by simp; omega); have r1 : rec2 w1 (w.heap.size + 1) p q := rec2.below ((rec2.new _ _ _ _).at (by simp)) hg (by simp); have G : Below w.heap.size w w1 := Below.trans (by go_grown) (hg.mono (by simp; omega)); have q0 := r0; have q1 := r1; obtain ⟨⟨c00, c01, c02, c03⟩, f00, f01, f02, f03⟩ := q0; obtain ⟨⟨c10, c11⟩, f10, f11⟩ := q1))
  clear hg
  go_region
  obtain ⟨s0, s1⟩ := rem_world (x' := x.tmod 1000) (y' := y.tmod 1000) (p' := p.tmod 1000) (q' := q.tmod 1000) r0 r1 (by omega)
  have G' : Below w.heap.size w ((((w1.setCell ⟨w.heap.size, 0, none⟩ (.int .i64 (x.tmod 1000))).setCell ⟨w.heap.size, 1, none⟩ (.int .i64 (y.tmod 1000))).setCell ⟨w.heap.size + 1, 0, none⟩ (.int .i64 (p.tmod 1000))).setCell ⟨w.heap.size + 1, 1, none⟩ (.int .i64 (q.tmod 1000))).drew := by go_grown
  have hz : w.heap.size + 1 < ((((w1.setCell ⟨w.heap.size, 0, none⟩ (.int .i64 (x.tmod 1000))).setCell ⟨w.heap.size, 1, none⟩ (.int .i64 (y.tmod 1000))).setCell ⟨w.heap.size + 1, 0, none⟩ (.int .i64 (p.tmod 1000))).setCell ⟨w.heap.size + 1, 1, none⟩ (.int .i64 (q.tmod 1000))).drew.heap.size := by simp; omega
  replace s0 := s0.drew
  replace s1 := s1.drew
  have bx := Int.tmod_lt_of_pos x (b := 1000) (by omega)
  have by' := Int.tmod_lt_of_pos y (b := 1000) (by omega)
  have bp := Int.tmod_lt_of_pos p (b := 1000) (by omega)
  have bq := Int.tmod_lt_of_pos q (b := 1000) (by omega)
  have lx := tmod_lo x
  have ly := tmod_lo y
  have lp := tmod_lo p
  have lq := tmod_lo q
  clear c00 c01 c02 c03 f00 f01 f02 f03 c10 c11 f10 f11 r0 r1 G hs
  generalize ((((w1.setCell ⟨w.heap.size, 0, none⟩ (.int .i64 (x.tmod 1000))).setCell ⟨w.heap.size, 1, none⟩ (.int .i64 (y.tmod 1000))).setCell ⟨w.heap.size + 1, 0, none⟩ (.int .i64 (p.tmod 1000))).setCell ⟨w.heap.size + 1, 1, none⟩ (.int .i64 (q.tmod 1000))).drew = W at *
  generalize x.tmod 1000 = X at *
  generalize y.tmod 1000 = Y at *
  generalize p.tmod 1000 = P at *
  generalize q.tmod 1000 = Q at *
  have q0 := s0
  have q1 := s1
  obtain ⟨⟨c00, c01, c02, c03⟩, f00, f01, f02, f03⟩ := q0
  obtain ⟨⟨c10, c11⟩, f10, f11⟩ := q1
  by_cases h1 : a < 1
  · go_wp2
    go_ret
    exact ⟨by simp, G'⟩
  by_cases h2 : 1000 < a
  · go_wp2
    go_ret
    exact ⟨by simp, G'⟩
  by_cases h3 : b < 1
  · go_wp2
    go_ret
    exact ⟨by simp, G'⟩
  by_cases h4 : 1000 < b
  · go_wp2
    go_ret
    exact ⟨by simp, G'⟩
  have i1 : 1 ≤ a ∧ a ≤ 1000 := by omega
  have i2 : 1 ≤ b ∧ b ≤ 1000 := by omega
  have hA1 := small_area (X := X) (Y := Y) (a := a) (b := b) (by omega) (by omega) (by omega) (by omega)
  have hA2 := small_area (X := X + P) (Y := Y + Q) (a := a) (b := b) (by omega) (by omega) (by omega) (by omega)
  have hM := small_move (X := X) (Y := Y) (a := a) (b := b) (P := P) (Q := Q) (by omega) (by omega) (by omega) (by omega) (by omega) (by omega)
  have hN := small_move (X := X + P) (Y := Y + Q) (a := a) (b := b) (P := -P) (Q := -Q) (by omega) (by omega) (by omega) (by omega) (by omega) (by omega)
  rw [show X + P + -P = X by omega, show Y + Q + -Q = Y by omega] at hN
  have hG := small_grow (X := X) (Y := Y) (a := a) (b := b) (n := n) (by omega) (by omega) (by omega) (by omega) (by omega) (by omega)
  have hK := small_grow (X := X - n) (Y := Y - n) (a := a + 2 * n) (b := b + 2 * n) (n := -n) (by omega) (by omega) (by omega) (by omega) (by omega) (by omega)
  rw [show X - n - -n = X by omega, show Y - n - -n = Y by omega, show a + 2 * n + 2 * -n = a by omega, show b + 2 * n + 2 * -n = b by omega] at hK
  have c1 : ∀ w, Calls Try.prog 27 #[.agg #[.int .i64 X, .int .i64 Y, .int .i64 a, .int .i64 b], .agg #[.int .i64 P, .int .i64 Q]] w fun e w' => e = .returned (Rc.val ⟨X + P, Y + Q, a, b⟩) ∧ Below w.heap.size w w' := fun w => by rw [← hM]; exact qMove X Y a b P Q w (by omega) (by omega)
  have c2 : ∀ w, Calls Try.prog 27 #[.agg #[.int .i64 (X + P), .int .i64 (Y + Q), .int .i64 a, .int .i64 b], .agg #[.int .i64 (-P), .int .i64 (-Q)]] w fun e w' => e = .returned (Rc.val ⟨X, Y, a, b⟩) ∧ Below w.heap.size w w' := fun w => by rw [← hN]; exact qMove (X + P) (Y + Q) a b (-P) (-Q) w (by omega) (by omega)
  have c3 : ∀ w, Calls Try.prog 29 #[.agg #[.int .i64 X, .int .i64 Y, .int .i64 a, .int .i64 b], .int .i64 n] w fun e w' => e = .returned (Rc.val ⟨X - n, Y - n, a + 2 * n, b + 2 * n⟩) ∧ Below w.heap.size w w' := fun w => by rw [← hG]; exact qGrow X Y a b n w (by omega) (by omega)
  have c4 : ∀ w, Calls Try.prog 29 #[.agg #[.int .i64 (X - n), .int .i64 (Y - n), .int .i64 (a + 2 * n), .int .i64 (b + 2 * n)], .int .i64 (-n)] w fun e w' => e = .returned (Rc.val ⟨X, Y, a, b⟩) ∧ Below w.heap.size w w' := fun w => by rw [← hK]; exact qGrow (X - n) (Y - n) (a + 2 * n) (b + 2 * n) (-n) w (by omega) (by omega)
  have c5 : ∀ w, Calls Try.prog 19 #[.agg #[.int .i64 (X + P), .int .i64 (Y + Q), .int .i64 a, .int .i64 b]] w fun e w' => e = .returned (.int .i64 (a * b)) ∧ Below w.heap.size w w' := fun w => by rw [← hA2]; exact qArea (X + P) (Y + Q) a b w (by omega) (by omega)
  have c6 : ∀ w, Calls Try.prog 19 #[.agg #[.int .i64 X, .int .i64 Y, .int .i64 a, .int .i64 b]] w fun e w' => e = .returned (.int .i64 (a * b)) ∧ Below w.heap.size w w' := fun w => by rw [← hA1]; exact qArea X Y a b w (by omega) (by omega)
  unfold Rc.val at c1 c2 c3 c4
  have kP : IntKind.i64.wrap (-P) = -P := IntWalk.i64_in _ (by omega)
  have kQ : IntKind.i64.wrap (-Q) = -Q := IntWalk.i64_in _ (by omega)
  have kn : IntKind.i64.wrap (-n) = -n := IntWalk.i64_in _ (by omega)
  have km : IntKind.i64.wrap n = n := IntWalk.i64_in _ (by omega)
  have C1 := Lib.hid c1
  have C2 := Lib.hid c2
  have C3 := Lib.hid c3
  have C4 := Lib.hid c4
  have C5 := Lib.hid c5
  have C6 := Lib.hid c6
  have kp : ∀ V w1 : World, (fun V => Below w.heap.size w V ∧ w.heap.size + 1 < V.heap.size ∧ V.cell? ⟨w.heap.size, 0, none⟩ = some (.int .i64 X) ∧ V.cell? ⟨w.heap.size, 1, none⟩ = some (.int .i64 Y) ∧ V.cell? ⟨w.heap.size, 2, none⟩ = some (.int .i64 a) ∧ V.cell? ⟨w.heap.size, 3, none⟩ = some (.int .i64 b) ∧ V.cell? ⟨w.heap.size + 1, 0, none⟩ = some (.int .i64 P) ∧ V.cell? ⟨w.heap.size + 1, 1, none⟩ = some (.int .i64 Q)) V → Below V.heap.size V w1 → (fun V => Below w.heap.size w V ∧ w.heap.size + 1 < V.heap.size ∧ V.cell? ⟨w.heap.size, 0, none⟩ = some (.int .i64 X) ∧ V.cell? ⟨w.heap.size, 1, none⟩ = some (.int .i64 Y) ∧ V.cell? ⟨w.heap.size, 2, none⟩ = some (.int .i64 a) ∧ V.cell? ⟨w.heap.size, 3, none⟩ = some (.int .i64 b) ∧ V.cell? ⟨w.heap.size + 1, 0, none⟩ = some (.int .i64 P) ∧ V.cell? ⟨w.heap.size + 1, 1, none⟩ = some (.int .i64 Q)) w1 := by
    intro V w1 hS hg
    have hs := hg.size
    obtain ⟨t0, t1, t2, t3, t4, t5, t6, t7⟩ := hS
    exact ⟨Gb t0 hg, by omega, (hg.cell (by (try dsimp only); omega)).trans t2, (hg.cell (by (try dsimp only); omega)).trans t3, (hg.cell (by (try dsimp only); omega)).trans t4, (hg.cell (by (try dsimp only); omega)).trans t5, (hg.cell (by (try dsimp only); omega)).trans t6, (hg.cell (by (try dsimp only); omega)).trans t7⟩
  have KP := Lib.hid kp
  clear c1 c2 c3 c4 c5 c6 kp hA1 hA2 hM hN hG hK
  go_wp2_with fail
  go_region_held3 (fun V => Below w.heap.size w V ∧ w.heap.size + 1 < V.heap.size ∧ V.cell? ⟨w.heap.size, 0, none⟩ = some (.int .i64 X) ∧ V.cell? ⟨w.heap.size, 1, none⟩ = some (.int .i64 Y) ∧ V.cell? ⟨w.heap.size, 2, none⟩ = some (.int .i64 a) ∧ V.cell? ⟨w.heap.size, 3, none⟩ = some (.int .i64 b) ∧ V.cell? ⟨w.heap.size + 1, 0, none⟩ = some (.int .i64 P) ∧ V.cell? ⟨w.heap.size + 1, 1, none⟩ = some (.int .i64 Q))
    (first | exact ⟨G'.drew, hz, c00, c01, c02, c03, c10, c11⟩ | assumption | exact KP.out _ _ (by assumption) hg)
    (first | (go_at_call 27; ((with_reducible refine (C1.out _).mono ?_)); rintro e w1 ⟨rfl, hg⟩) | (go_at_call 27; ((with_reducible refine (C2.out _).mono ?_)); rintro e w1 ⟨rfl, hg⟩) | (go_at_call 29; ((with_reducible refine (C3.out _).mono ?_)); rintro e w1 ⟨rfl, hg⟩) | (go_at_call 29; ((with_reducible refine (C4.out _).mono ?_)); rintro e w1 ⟨rfl, hg⟩) | (go_at_call 19; ((with_reducible refine (C5.out _).mono ?_)); rintro e w1 ⟨rfl, hg⟩) | (go_at_call 19; ((with_reducible refine (C6.out _).mono ?_)); rintro e w1 ⟨rfl, hg⟩))
  go_wp2
  go_ret
  exact ⟨by simp, by first | assumption | exact And.left (by assumption)⟩

end Go.Proofs.Ytbkhfebopmeanaa
