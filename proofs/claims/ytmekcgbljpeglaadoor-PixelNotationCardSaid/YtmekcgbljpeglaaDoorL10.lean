import Derived.Test.YtmekcgbljpeglaaDoorProg
import Derived.WalkKit
import Derived.WalkLawsBesides
import Derived.Outline
import Derived.Lib.Walk
import Derived.Deep.QuietTactic
import Derived.BigQuiet
import Derived.RowKit3
import Derived.Deep.LoopGhost
import Derived.Laws.Rows
import Derived.Laws.Tables
import Derived.Laws.CopyOwn
import Derived.Lib.Hide
import Derived.Handy
import Derived.Deep.Onto
import Derived.IntWalk
import Derived.Deep.RegionHeld3
import Derived.Test.YtmekcgbljpeglaaDoorA1
import Derived.Test.YtmekcgbljpeglaaDoorA2
import Derived.Test.YtmekcgbljpeglaaDoorEQ
import Derived.Test.YtmekcgbljpeglaaDoorB1
import Derived.Test.YtmekcgbljpeglaaDoorB2
import Derived.Test.YtmekcgbljpeglaaDoorB3
import Derived.Test.YtmekcgbljpeglaaDoorB4
import Derived.Test.YtmekcgbljpeglaaDoorB5
import Derived.Test.YtmekcgbljpeglaaDoorB7
import Derived.Test.YtmekcgbljpeglaaDoorU3
import Derived.Test.YtmekcgbljpeglaaDoorT1
import Derived.Test.YtmekcgbljpeglaaDoorT2
import Derived.Test.YtmekcgbljpeglaaDoorK33
import Derived.Test.YtmekcgbljpeglaaDoorK35
import Derived.Test.YtmekcgbljpeglaaDoorS1
import Derived.Test.YtmekcgbljpeglaaDoorS2
import Derived.Test.YtmekcgbljpeglaaDoorS3
import Derived.Test.YtmekcgbljpeglaaDoorS4
import Derived.Test.YtmekcgbljpeglaaDoorS5
import Derived.Test.YtmekcgbljpeglaaDoorS6
import Derived.Test.YtmekcgbljpeglaaDoorS7
import Derived.Test.YtmekcgbljpeglaaDoorS10
import Derived.Test.YtmekcgbljpeglaaDoorAW
import Derived.Test.YtmekcgbljpeglaaDoorL0
namespace Go.Proofs.YtmekcgbljpeglaaDoor
open Go.RowKit
set_option maxHeartbeats 400000
set_option linter.unusedVariables false

theorem valD_dgt (k : Nat) (h : k < 16) : valD (dgt k) = (k : Int) := valD_some (hexv_dgt k h)
theorem fr8_nat (n : Nat) (h : n < 256) : fr8 (n : Int) = ((257 * n : Nat) : Int) := by
  unfold fr8 un8
  omega
theorem t8_fr8 (n : Nat) (h : n < 256) : t8 (fr8 (n : Int)) = n := by
  have e : ∀ m : Nat, ((m : Int)).toNat = m := fun m => by omega
  rw [t8_px, fr8_nat n h, un_id (by omega) (by omega), e]
  exact PX.to8_from8 n
theorem fr8_near (v : Int) : un v - fr8 (t8 v : Int) ≤ 128 ∧ fr8 (t8 v : Int) - un v ≤ 128 ∧ 0 ≤ fr8 (t8 v : Int) ∧ fr8 (t8 v : Int) ≤ 65535 := by
  have h := t8_lt v
  have h2 := PX.from8_to8 (un v).toNat
  rw [← t8_px] at h2
  have h3 := un_lo v
  rw [fr8_nat _ h]
  generalize t8 v = m at *
  omega
/-- what is read of a printed pixel. -/
def Px.back (p : Px) : Px := ⟨fr8 (t8 p.r : Int), fr8 (t8 p.g : Int), fr8 (t8 p.b : Int), fr8 (t8 p.a : Int)⟩
theorem back_txt (p : Px) : p.back.txt = p.txt := by
  unfold Px.back Px.txt
  dsimp only
  rw [t8_fr8 _ (t8_lt _), t8_fr8 _ (t8_lt _), t8_fr8 _ (t8_lt _), t8_fr8 _ (t8_lt _)]
theorem two_dgt (m : Nat) (h : m < 256) : 16 * valD (dgt (m / 16)) + valD (dgt (m % 16)) = (m : Int) := by
  rw [valD_dgt _ (by omega), valD_dgt _ (by omega)]
  omega
theorem parse_txt (p : Px) : parseF p.txt = (p.back, 0) := by
  have hd : ∀ m, m < 16 → hexv (dgt m).toNat ≠ none := fun m h => by rw [hexv_dgt m h]; simp
  have h1 := t8_lt p.r; have h2 := t8_lt p.g; have h3 := t8_lt p.b; have h4 := t8_lt p.a
  show parseF (35 :: [dgt (t8 p.r / 16), dgt (t8 p.r % 16), dgt (t8 p.g / 16), dgt (t8 p.g % 16), dgt (t8 p.b / 16), dgt (t8 p.b % 16), dgt (t8 p.a / 16), dgt (t8 p.a % 16)]) = _
  unfold Px.back
  generalize t8 p.r = m1 at *
  generalize t8 p.g = m2 at *
  generalize t8 p.b = m3 at *
  generalize t8 p.a = m4 at *
  rw [parse_some _ _ _ _ _ _ _ _ rfl (by
    intro x hx
    simp only [List.mem_cons, List.not_mem_nil, or_false] at hx
    rcases hx with rfl | rfl | rfl | rfl | rfl | rfl | rfl | rfl <;> exact hd _ (by omega))]
  show (dig8 [valD (dgt (m1 / 16)), valD (dgt (m1 % 16)), valD (dgt (m2 / 16)), valD (dgt (m2 % 16)), valD (dgt (m3 / 16)), valD (dgt (m3 % 16)), valD (dgt (m4 / 16)), valD (dgt (m4 % 16))], (0 : Int)) = _
  have e : ∀ a b c d e f g h : Int, dig8 [a, b, c, d, e, f, g, h] = ⟨fr8 (16 * a + b), fr8 (16 * c + d), fr8 (16 * e + f), fr8 (16 * g + h)⟩ := fun _ _ _ _ _ _ _ _ => rfl
  rw [e, two_dgt m1 h1, two_dgt m2 h2, two_dgt m3 h3, two_dgt m4 h4]
theorem back_vld (p : Px) : p.back.vld = true := by
  unfold Px.vld
  rw [same_iff]
  unfold Px.lim Px.back
  dsimp only
  obtain ⟨_, _, a1, a2⟩ := fr8_near p.r
  obtain ⟨_, _, b1, b2⟩ := fr8_near p.g
  obtain ⟨_, _, c1, c2⟩ := fr8_near p.b
  obtain ⟨_, _, d1, d2⟩ := fr8_near p.a
  rw [un_id a1 a2, un_id b1 b2, un_id c1 c2, un_id d1 d2]

set_option maxHeartbeats 4000000 in
theorem l10 (r g b a : Int) (n : Nat) (hn : n < 256) (w : World) (hE : Err2 w) : Calls Tryd.prog 10 #[.agg #[.int .i64 r, .int .i64 g, .int .i64 b, .int .i64 a], .int .u8 (n : Int)] w fun e w' => e = .returned (.bool true) ∧ Below w.heap.size w w' := by
  have AW := Lib.hid (fun w hE => l21 w hE)
  have c34 : ∀ w, Calls Tryd.prog 34 #[.agg #[.int .i64 r, .int .i64 g, .int .i64 b, .int .i64 a]] w fun e w' => e = .returned (.string (mkS (Px.txt ⟨r, g, b, a⟩))) ∧ Below w.heap.size w w' := fun w => k34 ⟨r, g, b, a⟩ w
  have c35 := fun w => k34 (Px.back ⟨r, g, b, a⟩) w
  have c32 := fun w hE => k32_ret (Px.txt ⟨r, g, b, a⟩) w hE
  have c11 := fun w => k11 (Px.back ⟨r, g, b, a⟩) w
  rw [back_txt] at c35
  rw [parse_txt] at c32
  rw [back_vld] at c11
  have c14 : ∀ w, Calls Tryd.prog 14 #[.agg #[.int .i64 r, .int .i64 g, .int .i64 b, .int .i64 a]] w fun e w' => e = .returned (.agg #[.int .i64 (un r), .int .i64 (un g), .int .i64 (un b), .int .i64 (un a)]) ∧ Below w.heap.size w w' := fun w => s14 ⟨r, g, b, a⟩ w
  have c28 : ∀ w, Calls Tryd.prog 28 #[.int .i64 (n : Int)] w fun e w' => e = .returned (.int .i64 (fr8 (n : Int))) ∧ w = w' := fun w => k28 _ w
  have c30 : ∀ w, Calls Tryd.prog 30 #[.int .i64 (fr8 (n : Int))] w fun e w' => e = .returned (.int .i64 (n : Int)) ∧ Below w.heap.size w w' := fun w => (k30 _ w).mono fun e w' ⟨h, k, h'⟩ => ⟨by rw [h, t8_eq, t8_fr8 n hn], by rw [h']; exact bel_drewN k⟩
  have hz : (mkS (Px.txt ⟨r, g, b, a⟩)).size = 9 := rfl
  obtain ⟨x0, X0, y0, Y0⟩ := fr8_near r
  have N0 := Lib.hid (fun w => l36 (un r) (fr8 (t8 r : Int)) 128 w (un_lo r) (un_hi r) y0 Y0 x0 X0)
  obtain ⟨x1, X1, y1, Y1⟩ := fr8_near g
  have N1 := Lib.hid (fun w => l36 (un g) (fr8 (t8 g : Int)) 128 w (un_lo g) (un_hi g) y1 Y1 x1 X1)
  obtain ⟨x2, X2, y2, Y2⟩ := fr8_near b
  have N2 := Lib.hid (fun w => l36 (un b) (fr8 (t8 b : Int)) 128 w (un_lo b) (un_hi b) y2 Y2 x2 X2)
  obtain ⟨x3, X3, y3, Y3⟩ := fr8_near a
  have N3 := Lib.hid (fun w => l36 (un a) (fr8 (t8 a : Int)) 128 w (un_lo a) (un_hi a) y3 Y3 x3 X3)
  unfold Px.back Px.val at c32 c35 c11
  dsimp only at c32 c35 c11
  generalize mkS (Px.txt ⟨r, g, b, a⟩) = TX at *
  generalize fr8 (t8 r : Int) = q0 at *
  generalize un r = ur at *
  generalize fr8 (t8 g : Int) = q1 at *
  generalize un g = ug at *
  generalize fr8 (t8 b : Int) = q2 at *
  generalize un b = ub at *
  generalize fr8 (t8 a : Int) = q3 at *
  generalize un a = ua at *
  generalize fr8 (n : Int) = fn at *
  have e1 : IntKind.i64.wrap (n : Int) = (n : Int) := IntWalk.i64_in _ (by omega)
  obtain ⟨m, hm⟩ : ∃ m : Int, m = (n : Int) := ⟨_, rfl⟩
  rw [← hm] at c28 c30 e1 ⊢
  have eTX : (TX.toList == TX.toList) = true := by simp
  have C34 := Lib.hid c34; have C35 := Lib.hid c35; have C32 := Lib.hid c32; have C11 := Lib.hid c11; have C14 := Lib.hid c14; have C28 := Lib.hid c28; have C30 := Lib.hid c30
  have HE := Lib.hid hE
  clear c34 c35 c32 c11 c14 c28 c30 hE hm hn x0 X0 y0 Y0 x1 X1 y1 Y1 x2 X2 y2 Y2 x3 X3 y3 Y3
  go_enter Tryd.func10, Tryd.ntmps10
  go_wp2_with (go_at_call 34; fail)
  have B0 : Below w.heap.size w (w.alloc (.cells #[.int .i64 r, .int .i64 g, .int .i64 b, .int .i64 a] 23)) := bel_al (Below.refl _ _) _
  (with_reducible refine (C34.out _).mono ?_)
  rintro e1 W1 ⟨rfl, hg⟩
  have R1 : rec4 W1 w.heap.size r g b a := (rec4.new w _ _ _ _ 23).below hg (by simp)
  have z1 : w.heap.size < W1.heap.size := by have := hg.size; simp at this; omega
  have B1 := bel_trans B0 hg
  clear hg B0
  go_wp2_with (go_at_call 32; fail)
  (with_reducible refine (C32.out _ (HE.out.gr B1)).mono ?_)
  rintro e2 W2 ⟨rfl, hg⟩
  have R2 := R1.below hg z1
  have z2 : w.heap.size < W2.heap.size := Nat.lt_of_lt_of_le z1 hg.size
  have B2 := bel_trans B1 hg
  clear hg B1 R1 z1
  go_wp2_with (go_at_call 34; fail)
  (with_reducible refine (C35.out _).mono ?_)
  rintro e3 W3 ⟨rfl, hg⟩
  have R3 : rec4 W3 w.heap.size r g b a := (R2.alloc _ z2).below hg (by simp; omega)
  have S3 : rec4 W3 W2.heap.size q0 q1 q2 q3 := (rec4.new W2 _ _ _ _ 23).below hg (by simp)
  have z3 : w.heap.size < W3.heap.size := by have := hg.size; simp at this; omega
  have y3 : W2.heap.size < W3.heap.size := by have := hg.size; simp at this; omega
  have B3 := bel_trans (bel_al B2 _) hg
  clear hg B2 R2
  go_wp2_with (go_at_call 28; (with_reducible refine (C28.out _).mono ?_); rintro e w1 ⟨rfl, rfl⟩)
  (with_reducible refine (C30.out _).mono ?_)
  rintro e4 W4 ⟨rfl, hg⟩
  have R4 := R3.below hg z3
  have S4 := S3.below hg y3
  have z4 : w.heap.size < W4.heap.size := Nat.lt_of_lt_of_le z3 hg.size
  have y4 : W2.heap.size < W4.heap.size := Nat.lt_of_lt_of_le y3 hg.size
  have B4 := bel_trans B3 hg
  clear hg B3 R3 S3 z3 y3
  obtain ⟨⟨c0, c1, c2, c3⟩, f0⟩ := R4.cells
  go_wp2_with (go_at_call 14; fail)
  (with_reducible refine (C14.out _).mono ?_)
  rintro e5 W5 ⟨rfl, hg⟩
  have R5 := R4.below hg z4
  have S5 := S4.below hg y4
  have z5 : w.heap.size < W5.heap.size := Nat.lt_of_lt_of_le z4 hg.size
  have y5 : W2.heap.size < W5.heap.size := Nat.lt_of_lt_of_le y4 hg.size
  have B5 := bel_trans B4 hg
  clear hg B4 R4 S4 z4 y4 c0 c1 c2 c3 f0
  obtain ⟨⟨c0, c1, c2, c3⟩, g0, g1, g2, g3⟩ := R5.cells
  obtain ⟨⟨d0, d1, d2, d3⟩, f0⟩ := S5.cells
  have BB : Below w.heap.size w ((((W5.setCell ⟨w.heap.size, 0, none⟩ (.int .i64 ur)).setCell ⟨w.heap.size, 1, none⟩ (.int .i64 ug)).setCell ⟨w.heap.size, 2, none⟩ (.int .i64 ub)).setCell ⟨w.heap.size, 3, none⟩ (.int .i64 ua)) := by go_grown
  go_wp2_with (first | (go_at_call 36; (with_reducible refine (N0.out _).mono ?_); rintro e w1 ⟨rfl, rfl⟩) | (go_at_call 36; (with_reducible refine (N1.out _).mono ?_); rintro e w1 ⟨rfl, rfl⟩) | (go_at_call 36; (with_reducible refine (N2.out _).mono ?_); rintro e w1 ⟨rfl, rfl⟩) | (go_at_call 36; (with_reducible refine (N3.out _).mono ?_); rintro e w1 ⟨rfl, rfl⟩))
  (with_reducible refine (C11.out _).mono ?_)
  rintro e6 W6 ⟨rfl, hg⟩
  have B6 := bel_trans BB hg
  go_wp2_with (go_at_call 21; fail)
  (with_reducible refine (AW.out _ (HE.out.gr B6)).mono ?_)
  rintro e7 W7 ⟨rfl, hg7⟩
  go_wp2
  go_ret
  exact ⟨rfl, bel_trans B6 hg7⟩

end Go.Proofs.YtmekcgbljpeglaaDoor
