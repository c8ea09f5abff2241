import Derived.Test.YtmekcgbljpeglaaDoorProg
import Derived.WalkKit
import Derived.WalkLawsBesides
import Derived.Outline
import Derived.Lib.Walk
import Derived.Deep.QuietTactic
import Derived.BigQuiet
import Derived.RowKit3
import Derived.Deep.LoopGhost
import Derived.Laws.Rows
import Derived.Laws.Tables
import Derived.Laws.CopyOwn
import Derived.Lib.Hide
import Derived.Handy
import Derived.Deep.Onto
import Derived.IntWalk
import Derived.Deep.RegionHeld3
import Derived.Deep.RegionWith
import Derived.Test.YtmekcgbljpeglaaDoorA1
import Derived.Test.YtmekcgbljpeglaaDoorA2
import Derived.Test.YtmekcgbljpeglaaDoorEQ
import Derived.Test.YtmekcgbljpeglaaDoorB1
import Derived.Test.YtmekcgbljpeglaaDoorB2
import Derived.Test.YtmekcgbljpeglaaDoorB3
import Derived.Test.YtmekcgbljpeglaaDoorB4
import Derived.Test.YtmekcgbljpeglaaDoorB5
import Derived.Test.YtmekcgbljpeglaaDoorB7
import Derived.Test.YtmekcgbljpeglaaDoorU3
import Derived.Test.YtmekcgbljpeglaaDoorT1
import Derived.Test.YtmekcgbljpeglaaDoorT2
import Derived.Test.YtmekcgbljpeglaaDoorK33
import Derived.Test.YtmekcgbljpeglaaDoorK35
import Derived.Test.YtmekcgbljpeglaaDoorS1
import Derived.Test.YtmekcgbljpeglaaDoorS2
import Derived.Test.YtmekcgbljpeglaaDoorS3
import Derived.Test.YtmekcgbljpeglaaDoorS4
import Derived.Test.YtmekcgbljpeglaaDoorS5
import Derived.Test.YtmekcgbljpeglaaDoorS6
import Derived.Test.YtmekcgbljpeglaaDoorS7
import Derived.Test.YtmekcgbljpeglaaDoorS10
import Derived.Test.YtmekcgbljpeglaaDoorAW
import Derived.Test.YtmekcgbljpeglaaDoorL0
namespace Go.Proofs.YtmekcgbljpeglaaDoor
open Go.RowKit
set_option maxHeartbeats 400000
set_option linter.unusedVariables false

theorem gap_pos (x y : Int) : 0 ≤ gapI x y := by unfold gapI; omega
theorem gap_le (x y : Int) (hx : 0 ≤ x) (hx' : x ≤ 65535) (hy : 0 ≤ y) (hy' : y ≤ 65535) : gapI x y ≤ 65535 := by unfold gapI; omega
theorem gap_tri (x y z : Int) : gapI x z ≤ gapI x y + gapI y z := by unfold gapI; omega
theorem gap_comm (x y : Int) : gapI x y = gapI y x := by unfold gapI; omega
theorem gap_zero (x y : Int) : gapI x y = 0 ↔ x = y := by unfold gapI; omega
theorem dist_comm (p q : Px) : p.dist q = q.dist p := by
  unfold Px.dist
  rw [gap_comm (un p.r), gap_comm (un p.g), gap_comm (un p.b), gap_comm (un p.a)]
theorem dist_bd (p q : Px) : 0 ≤ p.dist q ∧ p.dist q ≤ 65535 := by
  have h1 := gap_pos (un p.r) (un q.r)
  have h2 := gap_le (un p.r) (un q.r) (un_lo _) (un_hi _) (un_lo _) (un_hi _)
  have h3 := gap_le (un p.g) (un q.g) (un_lo _) (un_hi _) (un_lo _) (un_hi _)
  have h4 := gap_le (un p.b) (un q.b) (un_lo _) (un_hi _) (un_lo _) (un_hi _)
  have h5 := gap_le (un p.a) (un q.a) (un_lo _) (un_hi _) (un_lo _) (un_hi _)
  unfold Px.dist
  omega
theorem dist_tri (p q o : Px) : p.dist o ≤ p.dist q + q.dist o := by
  have h1 := gap_tri (un p.r) (un q.r) (un o.r)
  have h2 := gap_tri (un p.g) (un q.g) (un o.g)
  have h3 := gap_tri (un p.b) (un q.b) (un o.b)
  have h4 := gap_tri (un p.a) (un q.a) (un o.a)
  unfold Px.dist
  omega
theorem dist_zero (p q : Px) : (p.dist q == 0) = p.lim.same q.lim := by
  have h1 := gap_zero (un p.r) (un q.r)
  have h2 := gap_zero (un p.g) (un q.g)
  have h3 := gap_zero (un p.b) (un q.b)
  have h4 := gap_zero (un p.a) (un q.a)
  have g1 := gap_pos (un p.r) (un q.r)
  have g2 := gap_pos (un p.g) (un q.g)
  have g3 := gap_pos (un p.b) (un q.b)
  have g4 := gap_pos (un p.a) (un q.a)
  rw [Bool.eq_iff_iff, same_iff, beq_iff_eq]
  unfold Px.dist Px.lim
  simp only [Px.mk.injEq]
  omega
theorem luma_rd (p : Px) : p.luma = ((PX.rd (13933 * (un p.r).toNat + 46871 * (un p.g).toNat + 4731 * (un p.b).toNat) 65535 : Nat) : Int) := by
  have h1 := un_lo p.r; have h2 := un_hi p.r; have h3 := un_lo p.g; have h4 := un_hi p.g; have h5 := un_lo p.b; have h6 := un_hi p.b
  unfold Px.luma
  rw [dvi_rd (by omega) (by omega) (by omega)]
  rw [show (13933 * un p.r + 46871 * un p.g + 4731 * un p.b).toNat = 13933 * (un p.r).toNat + 46871 * (un p.g).toNat + 4731 * (un p.b).toNat by omega]
  rfl
theorem luma_mono {p q : Px} (h1 : un p.r ≤ un q.r) (h2 : un p.g ≤ un q.g) (h3 : un p.b ≤ un q.b) : p.luma ≤ q.luma := by
  rw [luma_rd, luma_rd]
  have := PX.rd_mono (b := 65535) (show 13933 * (un p.r).toNat + 46871 * (un p.g).toNat + 4731 * (un p.b).toNat ≤ 13933 * (un q.r).toNat + 46871 * (un q.g).toNat + 4731 * (un q.b).toNat by omega)
  omega
theorem luma_gray {u a : Int} (h : 0 ≤ u) (h' : u ≤ 65535) : Px.luma ⟨u, u, u, a⟩ = u := by
  rw [luma_rd]
  dsimp only
  rw [un_id h h', show 13933 * u.toNat + 46871 * u.toNat + 4731 * u.toNat = u.toNat * 65535 by omega, PX.rd_mul _ (by omega)]
  omega
theorem sq_al {a W : World} {k0 k1 : Nat} {x00 x01 x02 x03 x10 x11 x12 x13 : Int} (h : Below a.heap.size a W ∧ k0 < W.heap.size ∧ k1 < W.heap.size ∧ W.cell? ⟨k0, 0, none⟩ = some (.int .i64 x00) ∧ W.cell? ⟨k0, 1, none⟩ = some (.int .i64 x01) ∧ W.cell? ⟨k0, 2, none⟩ = some (.int .i64 x02) ∧ W.cell? ⟨k0, 3, none⟩ = some (.int .i64 x03) ∧ W.cell? ⟨k1, 0, none⟩ = some (.int .i64 x10) ∧ W.cell? ⟨k1, 1, none⟩ = some (.int .i64 x11) ∧ W.cell? ⟨k1, 2, none⟩ = some (.int .i64 x12) ∧ W.cell? ⟨k1, 3, none⟩ = some (.int .i64 x13)) (o : Obj) : Below a.heap.size a (W.alloc o) ∧ k0 < (W.alloc o).heap.size ∧ k1 < (W.alloc o).heap.size ∧ (W.alloc o).cell? ⟨k0, 0, none⟩ = some (.int .i64 x00) ∧ (W.alloc o).cell? ⟨k0, 1, none⟩ = some (.int .i64 x01) ∧ (W.alloc o).cell? ⟨k0, 2, none⟩ = some (.int .i64 x02) ∧ (W.alloc o).cell? ⟨k0, 3, none⟩ = some (.int .i64 x03) ∧ (W.alloc o).cell? ⟨k1, 0, none⟩ = some (.int .i64 x10) ∧ (W.alloc o).cell? ⟨k1, 1, none⟩ = some (.int .i64 x11) ∧ (W.alloc o).cell? ⟨k1, 2, none⟩ = some (.int .i64 x12) ∧ (W.alloc o).cell? ⟨k1, 3, none⟩ = some (.int .i64 x13) := by
  obtain ⟨h0, g0, g1, c00, c01, c02, c03, c10, c11, c12, c13⟩ := h
  have hb : Below W.heap.size W (W.alloc o) := bel_al (Below.refl _ _) o
  have := hb.size
  exact ⟨bel_trans h0 hb, by omega, by omega, (hb.cell (p := ⟨k0, 0, none⟩) g0).trans c00, (hb.cell (p := ⟨k0, 1, none⟩) g0).trans c01, (hb.cell (p := ⟨k0, 2, none⟩) g0).trans c02, (hb.cell (p := ⟨k0, 3, none⟩) g0).trans c03, (hb.cell (p := ⟨k1, 0, none⟩) g1).trans c10, (hb.cell (p := ⟨k1, 1, none⟩) g1).trans c11, (hb.cell (p := ⟨k1, 2, none⟩) g1).trans c12, (hb.cell (p := ⟨k1, 3, none⟩) g1).trans c13⟩
theorem sq_ald {a W : World} {k0 k1 : Nat} {x00 x01 x02 x03 x10 x11 x12 x13 : Int} (h : Below a.heap.size a W.drew ∧ k0 < W.drew.heap.size ∧ k1 < W.drew.heap.size ∧ W.drew.cell? ⟨k0, 0, none⟩ = some (.int .i64 x00) ∧ W.drew.cell? ⟨k0, 1, none⟩ = some (.int .i64 x01) ∧ W.drew.cell? ⟨k0, 2, none⟩ = some (.int .i64 x02) ∧ W.drew.cell? ⟨k0, 3, none⟩ = some (.int .i64 x03) ∧ W.drew.cell? ⟨k1, 0, none⟩ = some (.int .i64 x10) ∧ W.drew.cell? ⟨k1, 1, none⟩ = some (.int .i64 x11) ∧ W.drew.cell? ⟨k1, 2, none⟩ = some (.int .i64 x12) ∧ W.drew.cell? ⟨k1, 3, none⟩ = some (.int .i64 x13)) (o : Obj) : Below a.heap.size a (W.alloc o).drew ∧ k0 < (W.alloc o).drew.heap.size ∧ k1 < (W.alloc o).drew.heap.size ∧ (W.alloc o).drew.cell? ⟨k0, 0, none⟩ = some (.int .i64 x00) ∧ (W.alloc o).drew.cell? ⟨k0, 1, none⟩ = some (.int .i64 x01) ∧ (W.alloc o).drew.cell? ⟨k0, 2, none⟩ = some (.int .i64 x02) ∧ (W.alloc o).drew.cell? ⟨k0, 3, none⟩ = some (.int .i64 x03) ∧ (W.alloc o).drew.cell? ⟨k1, 0, none⟩ = some (.int .i64 x10) ∧ (W.alloc o).drew.cell? ⟨k1, 1, none⟩ = some (.int .i64 x11) ∧ (W.alloc o).drew.cell? ⟨k1, 2, none⟩ = some (.int .i64 x12) ∧ (W.alloc o).drew.cell? ⟨k1, 3, none⟩ = some (.int .i64 x13) := sq_al h o

set_option maxHeartbeats 8000000 in
theorem l9 (r g b a x y z v i j k l : Int) (w : World) (hE : Err2 w) : Calls Tryd.prog 9 #[.agg #[.int .i64 r, .int .i64 g, .int .i64 b, .int .i64 a], .agg #[.int .i64 x, .int .i64 y, .int .i64 z, .int .i64 v], .agg #[.int .i64 i, .int .i64 j, .int .i64 k, .int .i64 l]] w fun e w' => e = .returned (.bool true) ∧ Below w.heap.size w w' := by
  have AW := Lib.hid (fun w hE => l21 w hE)
  have d1 := dist_bd ⟨r, g, b, a⟩ ⟨x, y, z, v⟩
  have d2 := dist_bd ⟨x, y, z, v⟩ ⟨i, j, k, l⟩
  have d3 := dist_bd ⟨r, g, b, a⟩ ⟨i, j, k, l⟩
  have d4 := dist_tri ⟨r, g, b, a⟩ ⟨x, y, z, v⟩ ⟨i, j, k, l⟩
  have d5 := dist_comm ⟨x, y, z, v⟩ ⟨r, g, b, a⟩
  have d6 := dist_zero ⟨r, g, b, a⟩ ⟨x, y, z, v⟩
  have c1 : ∀ w, Calls Tryd.prog 26 #[.agg #[.int .i64 r, .int .i64 g, .int .i64 b, .int .i64 a], .agg #[.int .i64 x, .int .i64 y, .int .i64 z, .int .i64 v]] w fun e w' => e = .returned (.int .i64 (Px.dist ⟨r, g, b, a⟩ ⟨x, y, z, v⟩)) ∧ Below w.heap.size w w' := fun w => k26 ⟨r, g, b, a⟩ ⟨x, y, z, v⟩ w
  have c2 : ∀ w, Calls Tryd.prog 26 #[.agg #[.int .i64 x, .int .i64 y, .int .i64 z, .int .i64 v], .agg #[.int .i64 i, .int .i64 j, .int .i64 k, .int .i64 l]] w fun e w' => e = .returned (.int .i64 (Px.dist ⟨x, y, z, v⟩ ⟨i, j, k, l⟩)) ∧ Below w.heap.size w w' := fun w => k26 ⟨x, y, z, v⟩ ⟨i, j, k, l⟩ w
  have c3 : ∀ w, Calls Tryd.prog 26 #[.agg #[.int .i64 r, .int .i64 g, .int .i64 b, .int .i64 a], .agg #[.int .i64 i, .int .i64 j, .int .i64 k, .int .i64 l]] w fun e w' => e = .returned (.int .i64 (Px.dist ⟨r, g, b, a⟩ ⟨i, j, k, l⟩)) ∧ Below w.heap.size w w' := fun w => k26 ⟨r, g, b, a⟩ ⟨i, j, k, l⟩ w
  have c4 : ∀ w, Calls Tryd.prog 26 #[.agg #[.int .i64 x, .int .i64 y, .int .i64 z, .int .i64 v], .agg #[.int .i64 r, .int .i64 g, .int .i64 b, .int .i64 a]] w fun e w' => e = .returned (.int .i64 (Px.dist ⟨r, g, b, a⟩ ⟨x, y, z, v⟩)) ∧ Below w.heap.size w w' := fun w => by rw [← d5]; exact k26 ⟨x, y, z, v⟩ ⟨r, g, b, a⟩ w
  clear d5
  have c5 : ∀ w, Calls Tryd.prog 14 #[.agg #[.int .i64 r, .int .i64 g, .int .i64 b, .int .i64 a]] w fun e w' => e = .returned (.agg #[.int .i64 (un r), .int .i64 (un g), .int .i64 (un b), .int .i64 (un a)]) ∧ Below w.heap.size w w' := fun w => s14 ⟨r, g, b, a⟩ w
  have c6 : ∀ w, Calls Tryd.prog 14 #[.agg #[.int .i64 x, .int .i64 y, .int .i64 z, .int .i64 v]] w fun e w' => e = .returned (.agg #[.int .i64 (un x), .int .i64 (un y), .int .i64 (un z), .int .i64 (un v)]) ∧ Below w.heap.size w w' := fun w => s14 ⟨x, y, z, v⟩ w
  have heq := fun W => eqPx (Px.lim ⟨r, g, b, a⟩) (Px.lim ⟨x, y, z, v⟩) W
  rw [← d6] at heq
  unfold Px.lim at heq
  dsimp only at heq
  clear d6
  generalize Px.dist ⟨r, g, b, a⟩ ⟨x, y, z, v⟩ = X at *
  generalize Px.dist ⟨x, y, z, v⟩ ⟨i, j, k, l⟩ = Y at *
  generalize Px.dist ⟨r, g, b, a⟩ ⟨i, j, k, l⟩ = Z at *
  have hr := un_lo r; have Hr := un_hi r
  have hg := un_lo g; have Hg := un_hi g
  have hb := un_lo b; have Hb := un_hi b
  have ha := un_lo a; have Ha := un_hi a
  have hx := un_lo x; have Hx := un_hi x
  have hy := un_lo y; have Hy := un_hi y
  have hz := un_lo z; have Hz := un_hi z
  have hv := un_lo v; have Hv := un_hi v
  generalize un r = ur at *
  generalize un g = ug at *
  generalize un b = ub at *
  generalize un a = ua at *
  generalize un x = ux at *
  generalize un y = uy at *
  generalize un z = uz at *
  generalize un v = uv at *
  obtain ⟨BX, hBX⟩ : ∃ BX : Bool, BX = (X == 0) := ⟨_, rfl⟩
  rw [← hBX] at heq
  have t1 : decide (X < 0) = false := decide_eq_false (by omega)
  have t2 : decide (65535 < X) = false := decide_eq_false (by omega)
  have t3 : decide (Y < 0) = false := decide_eq_false (by omega)
  have t4 : decide (65535 < Y) = false := decide_eq_false (by omega)
  have t5 : decide (Z < 0) = false := decide_eq_false (by omega)
  obtain ⟨XY, hXY⟩ : ∃ XY, XY = X + Y := ⟨_, rfl⟩
  have t6 : IntKind.i64.wrap (X + Y) = XY := by rw [hXY]; exact IntWalk.i64_in _ (by omega)
  have t7 : decide (XY < Z) = false := decide_eq_false (by omega)
  have t8 : (X == 0) = BX := hBX.symm
  have t9 : (BX != BX) = false := by simp
  have t10 : (X != X) = false := by simp
  obtain ⟨m0, hm0⟩ : ∃ m0, m0 = max ur ux := ⟨_, rfl⟩
  obtain ⟨m1, hm1⟩ : ∃ m1, m1 = max ug uy := ⟨_, rfl⟩
  obtain ⟨m2, hm2⟩ : ∃ m2, m2 = max ub uz := ⟨_, rfl⟩
  have g0 : ∀ w, Calls Tryd.prog 39 #[.int .i64 ur, .int .i64 ux] w fun e w' => e = .returned (.int .i64 m0) ∧ w = w' := fun w => (l39 ur ux w).mono fun e w' h => ⟨by rw [h.1, hm0], h.2⟩
  have g1 : ∀ w, Calls Tryd.prog 39 #[.int .i64 ug, .int .i64 uy] w fun e w' => e = .returned (.int .i64 m1) ∧ w = w' := fun w => (l39 ug uy w).mono fun e w' h => ⟨by rw [h.1, hm1], h.2⟩
  have g2 : ∀ w, Calls Tryd.prog 39 #[.int .i64 ub, .int .i64 uz] w fun e w' => e = .returned (.int .i64 m2) ∧ w = w' := fun w => (l39 ub uz w).mono fun e w' h => ⟨by rw [h.1, hm2], h.2⟩
  obtain ⟨L1, hL1⟩ : ∃ L1, L1 = Px.luma ⟨ur, ug, ub, ua⟩ := ⟨_, rfl⟩
  obtain ⟨L2, hL2⟩ : ∃ L2, L2 = Px.luma ⟨m0, m1, m2, 0⟩ := ⟨_, rfl⟩
  obtain ⟨L3, hL3⟩ : ∃ L3, L3 = Px.luma ⟨ux, uy, uz, uv⟩ := ⟨_, rfl⟩
  have q1 : L1 ≤ L2 := by rw [hL1, hL2]; refine luma_mono ?_ ?_ ?_ <;> dsimp only <;> rw [un_id (by omega) (by omega), un_id (by omega) (by omega)] <;> omega
  have q2 : L3 ≤ L2 := by rw [hL3, hL2]; refine luma_mono ?_ ?_ ?_ <;> dsimp only <;> rw [un_id (by omega) (by omega), un_id (by omega) (by omega)] <;> omega
  have c7 : ∀ w, Calls Tryd.prog 24 #[.agg #[.int .i64 ur, .int .i64 ug, .int .i64 ub, .int .i64 ua]] w fun e w' => e = .returned (.int .i64 L1) ∧ Below w.heap.size w w' := fun w => by rw [hL1]; exact k24 ⟨ur, ug, ub, ua⟩ w
  have c8 : ∀ w, Calls Tryd.prog 24 #[.agg #[.int .i64 m0, .int .i64 m1, .int .i64 m2, .int .i64 0]] w fun e w' => e = .returned (.int .i64 L2) ∧ Below w.heap.size w w' := fun w => by rw [hL2]; exact k24 ⟨m0, m1, m2, 0⟩ w
  have c9 : ∀ w, Calls Tryd.prog 24 #[.agg #[.int .i64 ux, .int .i64 uy, .int .i64 uz, .int .i64 uv]] w fun e w' => e = .returned (.int .i64 L3) ∧ Below w.heap.size w w' := fun w => by rw [hL3]; exact k24 ⟨ux, uy, uz, uv⟩ w
  have c0 : ∀ w, Calls Tryd.prog 24 #[.agg #[.int .i64 ur, .int .i64 ur, .int .i64 ur, .int .i64 uv]] w fun e w' => e = .returned (.int .i64 ur) ∧ Below w.heap.size w w' := fun w => by have := k24 ⟨ur, ur, ur, uv⟩ w; rw [luma_gray hr Hr] at this; exact this
  have C0 := Lib.hid c0
  have C1 := Lib.hid c1
  have C2 := Lib.hid c2
  have C3 := Lib.hid c3
  have C4 := Lib.hid c4
  have C5 := Lib.hid c5
  have C6 := Lib.hid c6
  have C7 := Lib.hid c7
  have C8 := Lib.hid c8
  have C9 := Lib.hid c9
  have G0 := Lib.hid g0
  have G1 := Lib.hid g1
  have G2 := Lib.hid g2
  have HE := Lib.hid hE
  clear hE c0 c1 c2 c3 c4 c5 c6 c7 c8 c9 g0 g1 g2 hL1 hL2 hL3 hm0 hm1 hm2 hXY hBX d1 d2 d3 d4 hr Hr hg Hg hb Hb ha Ha hx Hx hy Hy hz Hz hv Hv
  go_enter Tryd.func9, Tryd.ntmps9
  go_wp2_with fail
  have R0 : rec4 (((w.alloc (.cells #[.int .i64 r, .int .i64 g, .int .i64 b, .int .i64 a] 23)).alloc (.cells #[.int .i64 x, .int .i64 y, .int .i64 z, .int .i64 v] 23)).alloc (.cells #[.int .i64 i, .int .i64 j, .int .i64 k, .int .i64 l] 23)) w.heap.size r g b a := rec4.alloc (rec4.alloc (rec4.new w r g b a 23) _ (by simp)) _ (by simp; try omega)
  have R1 : rec4 (((w.alloc (.cells #[.int .i64 r, .int .i64 g, .int .i64 b, .int .i64 a] 23)).alloc (.cells #[.int .i64 x, .int .i64 y, .int .i64 z, .int .i64 v] 23)).alloc (.cells #[.int .i64 i, .int .i64 j, .int .i64 k, .int .i64 l] 23)) (w.heap.size + 1) x y z v := by
    have := rec4.alloc (rec4.new (w.alloc (.cells #[.int .i64 r, .int .i64 g, .int .i64 b, .int .i64 a] 23)) x y z v 23) (.cells #[.int .i64 i, .int .i64 j, .int .i64 k, .int .i64 l] 23) (by simp)
    simpa using this
  have R2 : rec4 (((w.alloc (.cells #[.int .i64 r, .int .i64 g, .int .i64 b, .int .i64 a] 23)).alloc (.cells #[.int .i64 x, .int .i64 y, .int .i64 z, .int .i64 v] 23)).alloc (.cells #[.int .i64 i, .int .i64 j, .int .i64 k, .int .i64 l] 23)) (w.heap.size + 2) i j k l := by
    have := rec4.new ((w.alloc (.cells #[.int .i64 r, .int .i64 g, .int .i64 b, .int .i64 a] 23)).alloc (.cells #[.int .i64 x, .int .i64 y, .int .i64 z, .int .i64 v] 23)) i j k l 23
    simpa using this
  have GV : Below w.heap.size w (((w.alloc (.cells #[.int .i64 r, .int .i64 g, .int .i64 b, .int .i64 a] 23)).alloc (.cells #[.int .i64 x, .int .i64 y, .int .i64 z, .int .i64 v] 23)).alloc (.cells #[.int .i64 i, .int .i64 j, .int .i64 k, .int .i64 l] 23)) := bel_al (bel_al (bel_al (Below.refl _ _) _) _) _
  have z0 : w.heap.size < (((w.alloc (.cells #[.int .i64 r, .int .i64 g, .int .i64 b, .int .i64 a] 23)).alloc (.cells #[.int .i64 x, .int .i64 y, .int .i64 z, .int .i64 v] 23)).alloc (.cells #[.int .i64 i, .int .i64 j, .int .i64 k, .int .i64 l] 23)).heap.size := by simp; try omega
  have z1 : w.heap.size + 1 < (((w.alloc (.cells #[.int .i64 r, .int .i64 g, .int .i64 b, .int .i64 a] 23)).alloc (.cells #[.int .i64 x, .int .i64 y, .int .i64 z, .int .i64 v] 23)).alloc (.cells #[.int .i64 i, .int .i64 j, .int .i64 k, .int .i64 l] 23)).heap.size := by simp; try omega
  have z2 : w.heap.size + 2 < (((w.alloc (.cells #[.int .i64 r, .int .i64 g, .int .i64 b, .int .i64 a] 23)).alloc (.cells #[.int .i64 x, .int .i64 y, .int .i64 z, .int .i64 v] 23)).alloc (.cells #[.int .i64 i, .int .i64 j, .int .i64 k, .int .i64 l] 23)).heap.size := by simp; try omega
  have hEV : Err2 (((w.alloc (.cells #[.int .i64 r, .int .i64 g, .int .i64 b, .int .i64 a] 23)).alloc (.cells #[.int .i64 x, .int .i64 y, .int .i64 z, .int .i64 v] 23)).alloc (.cells #[.int .i64 i, .int .i64 j, .int .i64 k, .int .i64 l] 23)) := HE.out.gr GV
  generalize (((w.alloc (.cells #[.int .i64 r, .int .i64 g, .int .i64 b, .int .i64 a] 23)).alloc (.cells #[.int .i64 x, .int .i64 y, .int .i64 z, .int .i64 v] 23)).alloc (.cells #[.int .i64 i, .int .i64 j, .int .i64 k, .int .i64 l] 23)) = V0 at *
  obtain ⟨⟨c0, c1, c2, c3⟩, f0⟩ := R0.cells
  obtain ⟨⟨d0, d1, d2, d3⟩, f1⟩ := R1.cells
  obtain ⟨⟨g0, g1, g2, g3⟩, f2⟩ := R2.cells
  have HS : Below V0.heap.size V0 V0.drew ∧ Err2 V0.drew ∧ w.heap.size < V0.drew.heap.size ∧ w.heap.size + 1 < V0.drew.heap.size ∧ w.heap.size + 2 < V0.drew.heap.size ∧ V0.drew.cell? ⟨w.heap.size, 0, none⟩ = some (.int .i64 r) ∧ V0.drew.cell? ⟨w.heap.size, 1, none⟩ = some (.int .i64 g) ∧ V0.drew.cell? ⟨w.heap.size, 2, none⟩ = some (.int .i64 b) ∧ V0.drew.cell? ⟨w.heap.size, 3, none⟩ = some (.int .i64 a) ∧ V0.drew.cell? ⟨w.heap.size + 1, 0, none⟩ = some (.int .i64 x) ∧ V0.drew.cell? ⟨w.heap.size + 1, 1, none⟩ = some (.int .i64 y) ∧ V0.drew.cell? ⟨w.heap.size + 1, 2, none⟩ = some (.int .i64 z) ∧ V0.drew.cell? ⟨w.heap.size + 1, 3, none⟩ = some (.int .i64 v) ∧ V0.drew.cell? ⟨w.heap.size + 2, 0, none⟩ = some (.int .i64 i) ∧ V0.drew.cell? ⟨w.heap.size + 2, 1, none⟩ = some (.int .i64 j) ∧ V0.drew.cell? ⟨w.heap.size + 2, 2, none⟩ = some (.int .i64 k) ∧ V0.drew.cell? ⟨w.heap.size + 2, 3, none⟩ = some (.int .i64 l) := ⟨bel_drewN 1, hEV.gr (bel_drewN 1), z0, z1, z2, c0, c1, c2, c3, d0, d1, d2, d3, g0, g1, g2, g3⟩
  clear c0 c1 c2 c3 d0 d1 d2 d3 g0 g1 g2 g3 f0 f1 f2 hEV
  go_region_held3 (fun W => Below V0.heap.size V0 W ∧ Err2 W ∧ w.heap.size < W.heap.size ∧ w.heap.size + 1 < W.heap.size ∧ w.heap.size + 2 < W.heap.size ∧ W.cell? ⟨w.heap.size, 0, none⟩ = some (.int .i64 r) ∧ W.cell? ⟨w.heap.size, 1, none⟩ = some (.int .i64 g) ∧ W.cell? ⟨w.heap.size, 2, none⟩ = some (.int .i64 b) ∧ W.cell? ⟨w.heap.size, 3, none⟩ = some (.int .i64 a) ∧ W.cell? ⟨w.heap.size + 1, 0, none⟩ = some (.int .i64 x) ∧ W.cell? ⟨w.heap.size + 1, 1, none⟩ = some (.int .i64 y) ∧ W.cell? ⟨w.heap.size + 1, 2, none⟩ = some (.int .i64 z) ∧ W.cell? ⟨w.heap.size + 1, 3, none⟩ = some (.int .i64 v) ∧ W.cell? ⟨w.heap.size + 2, 0, none⟩ = some (.int .i64 i) ∧ W.cell? ⟨w.heap.size + 2, 1, none⟩ = some (.int .i64 j) ∧ W.cell? ⟨w.heap.size + 2, 2, none⟩ = some (.int .i64 k) ∧ W.cell? ⟨w.heap.size + 2, 3, none⟩ = some (.int .i64 l))
    (first | exact HS | assumption | exact up3 (by assumption) hg)
    (first | (go_at_call 26; (with_reducible refine (C1.out _).mono ?_); rintro e w1 ⟨rfl, hg⟩) | (go_at_call 26; (with_reducible refine (C2.out _).mono ?_); rintro e w1 ⟨rfl, hg⟩) | (go_at_call 26; (with_reducible refine (C3.out _).mono ?_); rintro e w1 ⟨rfl, hg⟩))
  have hS1 : Below V0.heap.size V0 w1 ∧ Err2 w1 ∧ w.heap.size < w1.heap.size ∧ w.heap.size + 1 < w1.heap.size ∧ w.heap.size + 2 < w1.heap.size ∧ w1.cell? ⟨w.heap.size, 0, none⟩ = some (.int .i64 r) ∧ w1.cell? ⟨w.heap.size, 1, none⟩ = some (.int .i64 g) ∧ w1.cell? ⟨w.heap.size, 2, none⟩ = some (.int .i64 b) ∧ w1.cell? ⟨w.heap.size, 3, none⟩ = some (.int .i64 a) ∧ w1.cell? ⟨w.heap.size + 1, 0, none⟩ = some (.int .i64 x) ∧ w1.cell? ⟨w.heap.size + 1, 1, none⟩ = some (.int .i64 y) ∧ w1.cell? ⟨w.heap.size + 1, 2, none⟩ = some (.int .i64 z) ∧ w1.cell? ⟨w.heap.size + 1, 3, none⟩ = some (.int .i64 v) ∧ w1.cell? ⟨w.heap.size + 2, 0, none⟩ = some (.int .i64 i) ∧ w1.cell? ⟨w.heap.size + 2, 1, none⟩ = some (.int .i64 j) ∧ w1.cell? ⟨w.heap.size + 2, 2, none⟩ = some (.int .i64 k) ∧ w1.cell? ⟨w.heap.size + 2, 3, none⟩ = some (.int .i64 l) := by assumption
  clear HS
  go_wp2_with fail
  obtain ⟨B1, hE1, s0, s1, s2, c0, c1, c2, c3, d0, d1, d2, d3, g0, g1, g2, g3⟩ := hS1
  have HS2 : Below V0.heap.size V0 w1.drew ∧ Err2 w1.drew ∧ w.heap.size < w1.drew.heap.size ∧ w.heap.size + 1 < w1.drew.heap.size ∧ w.heap.size + 2 < w1.drew.heap.size ∧ w1.drew.cell? ⟨w.heap.size, 0, none⟩ = some (.int .i64 r) ∧ w1.drew.cell? ⟨w.heap.size, 1, none⟩ = some (.int .i64 g) ∧ w1.drew.cell? ⟨w.heap.size, 2, none⟩ = some (.int .i64 b) ∧ w1.drew.cell? ⟨w.heap.size, 3, none⟩ = some (.int .i64 a) ∧ w1.drew.cell? ⟨w.heap.size + 1, 0, none⟩ = some (.int .i64 x) ∧ w1.drew.cell? ⟨w.heap.size + 1, 1, none⟩ = some (.int .i64 y) ∧ w1.drew.cell? ⟨w.heap.size + 1, 2, none⟩ = some (.int .i64 z) ∧ w1.drew.cell? ⟨w.heap.size + 1, 3, none⟩ = some (.int .i64 v) ∧ w1.drew.cell? ⟨w.heap.size + 2, 0, none⟩ = some (.int .i64 i) ∧ w1.drew.cell? ⟨w.heap.size + 2, 1, none⟩ = some (.int .i64 j) ∧ w1.drew.cell? ⟨w.heap.size + 2, 2, none⟩ = some (.int .i64 k) ∧ w1.drew.cell? ⟨w.heap.size + 2, 3, none⟩ = some (.int .i64 l) := ⟨bel_dr B1 1, hE1.gr (bel_drewN 1), s0, s1, s2, c0, c1, c2, c3, d0, d1, d2, d3, g0, g1, g2, g3⟩
  clear B1 hE1 s0 s1 s2 c0 c1 c2 c3 d0 d1 d2 d3 g0 g1 g2 g3
  generalize w1 = V1 at *
  go_region_held3 (fun W => Below V0.heap.size V0 W ∧ Err2 W ∧ w.heap.size < W.heap.size ∧ w.heap.size + 1 < W.heap.size ∧ w.heap.size + 2 < W.heap.size ∧ W.cell? ⟨w.heap.size, 0, none⟩ = some (.int .i64 r) ∧ W.cell? ⟨w.heap.size, 1, none⟩ = some (.int .i64 g) ∧ W.cell? ⟨w.heap.size, 2, none⟩ = some (.int .i64 b) ∧ W.cell? ⟨w.heap.size, 3, none⟩ = some (.int .i64 a) ∧ W.cell? ⟨w.heap.size + 1, 0, none⟩ = some (.int .i64 x) ∧ W.cell? ⟨w.heap.size + 1, 1, none⟩ = some (.int .i64 y) ∧ W.cell? ⟨w.heap.size + 1, 2, none⟩ = some (.int .i64 z) ∧ W.cell? ⟨w.heap.size + 1, 3, none⟩ = some (.int .i64 v) ∧ W.cell? ⟨w.heap.size + 2, 0, none⟩ = some (.int .i64 i) ∧ W.cell? ⟨w.heap.size + 2, 1, none⟩ = some (.int .i64 j) ∧ W.cell? ⟨w.heap.size + 2, 2, none⟩ = some (.int .i64 k) ∧ W.cell? ⟨w.heap.size + 2, 3, none⟩ = some (.int .i64 l))
    (first | exact HS2 | assumption | exact up3 (by assumption) hg)
    (first | (go_at_call 26; (with_reducible refine (C4.out _).mono ?_); rintro e w1 ⟨rfl, hg⟩) | (go_at_call 14; (with_reducible refine (C5.out _).mono ?_); rintro e w1 ⟨rfl, hg⟩) | (go_at_call 14; (with_reducible refine (C6.out _).mono ?_); rintro e w1 ⟨rfl, hg⟩))
  have hS3 : Below V0.heap.size V0 w1 ∧ Err2 w1 ∧ w.heap.size < w1.heap.size ∧ w.heap.size + 1 < w1.heap.size ∧ w.heap.size + 2 < w1.heap.size ∧ w1.cell? ⟨w.heap.size, 0, none⟩ = some (.int .i64 r) ∧ w1.cell? ⟨w.heap.size, 1, none⟩ = some (.int .i64 g) ∧ w1.cell? ⟨w.heap.size, 2, none⟩ = some (.int .i64 b) ∧ w1.cell? ⟨w.heap.size, 3, none⟩ = some (.int .i64 a) ∧ w1.cell? ⟨w.heap.size + 1, 0, none⟩ = some (.int .i64 x) ∧ w1.cell? ⟨w.heap.size + 1, 1, none⟩ = some (.int .i64 y) ∧ w1.cell? ⟨w.heap.size + 1, 2, none⟩ = some (.int .i64 z) ∧ w1.cell? ⟨w.heap.size + 1, 3, none⟩ = some (.int .i64 v) ∧ w1.cell? ⟨w.heap.size + 2, 0, none⟩ = some (.int .i64 i) ∧ w1.cell? ⟨w.heap.size + 2, 1, none⟩ = some (.int .i64 j) ∧ w1.cell? ⟨w.heap.size + 2, 2, none⟩ = some (.int .i64 k) ∧ w1.cell? ⟨w.heap.size + 2, 3, none⟩ = some (.int .i64 l) := by assumption
  clear HS2
  go_wp2_with fail
  obtain ⟨B1, _⟩ := hS3
  have r0 := R0.below B1 z0
  have r1 := R1.below B1 z1
  have r2 := R2.below B1 z2
  have G := bel_trans GV B1
  have s0 : w.heap.size < w1.heap.size := Nat.lt_of_lt_of_le z0 B1.size
  have s1 : w.heap.size + 1 < w1.heap.size := Nat.lt_of_lt_of_le z1 B1.size
  have s2 : w.heap.size + 2 < w1.heap.size := Nat.lt_of_lt_of_le z2 B1.size
  clear B1 R0 R1 R2 GV z0 z1 z2
  generalize w1 = W0 at *
  obtain ⟨⟨c00, c01, c02, c03⟩, f00, f01, f02, f03⟩ := r0.cells
  obtain ⟨⟨c10, c11, c12, c13⟩, f10, f11, f12, f13⟩ := r1.cells
  apply wp_at (F := fun W => Below w.heap.size w W ∧ w.heap.size + 2 < W.heap.size ∧ rec4 W w.heap.size ur ug ub ua ∧ rec4 W (w.heap.size + 1) ux uy uz uv ∧ rec4 W (w.heap.size + 2) i j k l)
  case hreg =>
    go_region_with (first | (go_at_call 14; (with_reducible refine (C5.out _).mono ?_); rintro e w1 ⟨rfl, hg⟩; have hs := hg.size; (try simp at hs); have hz0 : w.heap.size < w1.heap.size := (by omega); have r0 : rec4 w1 (w.heap.size) (r) (g) (b) (a) := rec4.below (by with_reducible first | assumption | exact rec4.own (by assumption) | exact rec4.other (by assumption) _ _ _ _ (by omega) | exact rec4.own (rec4.other (by assumption) _ _ _ _ (by omega)) | exact rec4.other (rec4.own (by assumption)) _ _ _ _ (by omega) | exact rec4.drew (by assumption)) hg (by first | assumption | omega | (simp; done) | (simp; omega)); obtain ⟨⟨c00, c01, c02, c03⟩, f00, f01, f02, f03⟩ := r0.cells; have hz1 : w.heap.size + 1 < w1.heap.size := (by omega); have r1 : rec4 w1 (w.heap.size + 1) (x) (y) (z) (v) := rec4.below (by with_reducible first | assumption | exact rec4.own (by assumption) | exact rec4.other (by assumption) _ _ _ _ (by omega) | exact rec4.own (rec4.other (by assumption) _ _ _ _ (by omega)) | exact rec4.other (rec4.own (by assumption)) _ _ _ _ (by omega) | exact rec4.drew (by assumption)) hg (by first | assumption | omega | (simp; done) | (simp; omega)); obtain ⟨⟨c10, c11, c12, c13⟩, f10, f11, f12, f13⟩ := r1.cells; have hz2 : w.heap.size + 2 < w1.heap.size := (by omega); have r2 : rec4 w1 (w.heap.size + 2) (i) (j) (k) (l) := rec4.below (by with_reducible first | assumption | exact rec4.own (by assumption) | exact rec4.other (by assumption) _ _ _ _ (by omega) | exact rec4.own (rec4.other (by assumption) _ _ _ _ (by omega)) | exact rec4.other (rec4.own (by assumption)) _ _ _ _ (by omega) | exact rec4.drew (by assumption)) hg (by first | assumption | omega | (simp; done) | (simp; omega)); obtain ⟨⟨c20, c21, c22, c23⟩, f20, f21, f22, f23⟩ := r2.cells; have G : Below w.heap.size w w1 := bel_up hg (by first | assumption | exact bel_dr (by assumption) 1)) | (go_at_call 14; (with_reducible refine (C6.out _).mono ?_); rintro e w1 ⟨rfl, hg⟩; have hs := hg.size; (try simp at hs); have hz0 : w.heap.size < w1.heap.size := (by omega); have r0 : rec4 w1 (w.heap.size) (r) (g) (b) (a) := rec4.below (by with_reducible first | assumption | exact rec4.own (by assumption) | exact rec4.other (by assumption) _ _ _ _ (by omega) | exact rec4.own (rec4.other (by assumption) _ _ _ _ (by omega)) | exact rec4.other (rec4.own (by assumption)) _ _ _ _ (by omega) | exact rec4.drew (by assumption)) hg (by first | assumption | omega | (simp; done) | (simp; omega)); obtain ⟨⟨c00, c01, c02, c03⟩, f00, f01, f02, f03⟩ := r0.cells; have hz1 : w.heap.size + 1 < w1.heap.size := (by omega); have r1 : rec4 w1 (w.heap.size + 1) (x) (y) (z) (v) := rec4.below (by with_reducible first | assumption | exact rec4.own (by assumption) | exact rec4.other (by assumption) _ _ _ _ (by omega) | exact rec4.own (rec4.other (by assumption) _ _ _ _ (by omega)) | exact rec4.other (rec4.own (by assumption)) _ _ _ _ (by omega) | exact rec4.drew (by assumption)) hg (by first | assumption | omega | (simp; done) | (simp; omega)); obtain ⟨⟨c10, c11, c12, c13⟩, f10, f11, f12, f13⟩ := r1.cells; have hz2 : w.heap.size + 2 < w1.heap.size := (by omega); have r2 : rec4 w1 (w.heap.size + 2) (i) (j) (k) (l) := rec4.below (by with_reducible first | assumption | exact rec4.own (by assumption) | exact rec4.other (by assumption) _ _ _ _ (by omega) | exact rec4.own (rec4.other (by assumption) _ _ _ _ (by omega)) | exact rec4.other (rec4.own (by assumption)) _ _ _ _ (by omega) | exact rec4.drew (by assumption)) hg (by first | assumption | omega | (simp; done) | (simp; omega)); obtain ⟨⟨c20, c21, c22, c23⟩, f20, f21, f22, f23⟩ := r2.cells; have G : Below w.heap.size w w1 := bel_up hg (by first | assumption | exact bel_dr (by assumption) 1)))
    all_goals
      refine ⟨rfl, ?_, ?_, rec4.other (rec4.own r0) _ _ _ _ (by omega), rec4.own (rec4.other r1 _ _ _ _ (by omega)), rec4.other (rec4.other r2 _ _ _ _ (by omega)) _ _ _ _ (by omega)⟩
      · go_grown
      · simp
        omega
  case hrest =>
    clear G s0 s1 s2 r0 r1 r2 c00 c01 c02 c03 c10 c11 c12 c13 f00 f01 f02 f03 f10 f11 f12 f13
    intro W h
    obtain ⟨G, s2, r0, r1, r2⟩ := h
    have s0 : w.heap.size < W.heap.size := by omega
    have s1 : w.heap.size + 1 < W.heap.size := by omega
    obtain ⟨⟨c00, c01, c02, c03⟩, f0⟩ := r0.cells
    obtain ⟨⟨c10, c11, c12, c13⟩, f1⟩ := r1.cells
    clear f0 f1 r2
    go_wp2_with fail
    have FS : Below w.heap.size w W.drew ∧ w.heap.size < W.drew.heap.size ∧ w.heap.size + 1 < W.drew.heap.size ∧ W.drew.cell? ⟨w.heap.size, 0, none⟩ = some (.int .i64 ur) ∧ W.drew.cell? ⟨w.heap.size, 1, none⟩ = some (.int .i64 ug) ∧ W.drew.cell? ⟨w.heap.size, 2, none⟩ = some (.int .i64 ub) ∧ W.drew.cell? ⟨w.heap.size, 3, none⟩ = some (.int .i64 ua) ∧ W.drew.cell? ⟨w.heap.size + 1, 0, none⟩ = some (.int .i64 ux) ∧ W.drew.cell? ⟨w.heap.size + 1, 1, none⟩ = some (.int .i64 uy) ∧ W.drew.cell? ⟨w.heap.size + 1, 2, none⟩ = some (.int .i64 uz) ∧ W.drew.cell? ⟨w.heap.size + 1, 3, none⟩ = some (.int .i64 uv) := ⟨bel_dr G 1, s0, s1, c00, c01, c02, c03, c10, c11, c12, c13⟩
    apply wp_at (F := fun X => X = (W.alloc (.cells #[.int .i64 m0, .int .i64 m1, .int .i64 m2, .int .i64 0] 23)).drew)
    case hreg =>
      go_region_held3 (fun W => Below w.heap.size w W ∧ w.heap.size < W.heap.size ∧ w.heap.size + 1 < W.heap.size ∧ W.cell? ⟨w.heap.size, 0, none⟩ = some (.int .i64 ur) ∧ W.cell? ⟨w.heap.size, 1, none⟩ = some (.int .i64 ug) ∧ W.cell? ⟨w.heap.size, 2, none⟩ = some (.int .i64 ub) ∧ W.cell? ⟨w.heap.size, 3, none⟩ = some (.int .i64 ua) ∧ W.cell? ⟨w.heap.size + 1, 0, none⟩ = some (.int .i64 ux) ∧ W.cell? ⟨w.heap.size + 1, 1, none⟩ = some (.int .i64 uy) ∧ W.cell? ⟨w.heap.size + 1, 2, none⟩ = some (.int .i64 uz) ∧ W.cell? ⟨w.heap.size + 1, 3, none⟩ = some (.int .i64 uv))
        (first | exact FS | assumption | exact sq_al (by assumption) _ | exact sq_ald (by assumption) _)
        (first | (go_at_call 39; (with_reducible refine (G0.out _).mono ?_); rintro e w1 ⟨rfl, rfl⟩) | (go_at_call 39; (with_reducible refine (G1.out _).mono ?_); rintro e w1 ⟨rfl, rfl⟩) | (go_at_call 39; (with_reducible refine (G2.out _).mono ?_); rintro e w1 ⟨rfl, rfl⟩))
      all_goals exact ⟨rfl, rfl⟩
    case hrest =>
      clear FS c00 c01 c02 c03 c10 c11 c12 c13
      intro X hX
      have q0 : rec4 X w.heap.size ur ug ub ua := by rw [hX]; exact (r0.alloc _ s0).drew
      have q1 : rec4 X (w.heap.size + 1) ux uy uz uv := by rw [hX]; exact (r1.alloc _ s1).drew
      have q2 : rec4 X W.heap.size m0 m1 m2 0 := by rw [hX]; exact (rec4.new W _ _ _ _ 23).drew
      have B5 : Below w.heap.size w X := by rw [hX]; exact bel_dr (bel_al G _) 1
      have y0 : w.heap.size < X.heap.size := by rw [hX]; simp; omega
      have y1 : w.heap.size + 1 < X.heap.size := by rw [hX]; simp; omega
      have y2 : W.heap.size < X.heap.size := by rw [hX]; simp
      have hEX : Err2 X := HE.out.gr B5
      clear hX r0 r1 G s0 s1 s2 HE
      generalize W.heap.size = Mb at *
      go_wp2_with fail
      obtain ⟨⟨c0, c1, c2, c3⟩, f0⟩ := q0.cells
      obtain ⟨⟨d0, d1, d2, d3⟩, f1⟩ := q1.cells
      obtain ⟨⟨g0, g1, g2, g3⟩, f2⟩ := q2.cells
      have HS : Below w.heap.size w X.drew ∧ Err2 X.drew ∧ w.heap.size < X.drew.heap.size ∧ w.heap.size + 1 < X.drew.heap.size ∧ Mb < X.drew.heap.size ∧ X.drew.cell? ⟨w.heap.size, 0, none⟩ = some (.int .i64 ur) ∧ X.drew.cell? ⟨w.heap.size, 1, none⟩ = some (.int .i64 ug) ∧ X.drew.cell? ⟨w.heap.size, 2, none⟩ = some (.int .i64 ub) ∧ X.drew.cell? ⟨w.heap.size, 3, none⟩ = some (.int .i64 ua) ∧ X.drew.cell? ⟨w.heap.size + 1, 0, none⟩ = some (.int .i64 ux) ∧ X.drew.cell? ⟨w.heap.size + 1, 1, none⟩ = some (.int .i64 uy) ∧ X.drew.cell? ⟨w.heap.size + 1, 2, none⟩ = some (.int .i64 uz) ∧ X.drew.cell? ⟨w.heap.size + 1, 3, none⟩ = some (.int .i64 uv) ∧ X.drew.cell? ⟨Mb, 0, none⟩ = some (.int .i64 m0) ∧ X.drew.cell? ⟨Mb, 1, none⟩ = some (.int .i64 m1) ∧ X.drew.cell? ⟨Mb, 2, none⟩ = some (.int .i64 m2) ∧ X.drew.cell? ⟨Mb, 3, none⟩ = some (.int .i64 0) := ⟨bel_dr B5 1, hEX.gr (bel_drewN 1), y0, y1, y2, c0, c1, c2, c3, d0, d1, d2, d3, g0, g1, g2, g3⟩
      clear q0 q1 q2 f0 f1 f2 B5 y0 y1 y2 hEX c0 c1 c2 c3 d0 d1 d2 d3 g0 g1 g2 g3
      go_region_held3 (fun W => Below w.heap.size w W ∧ Err2 W ∧ w.heap.size < W.heap.size ∧ w.heap.size + 1 < W.heap.size ∧ Mb < W.heap.size ∧ W.cell? ⟨w.heap.size, 0, none⟩ = some (.int .i64 ur) ∧ W.cell? ⟨w.heap.size, 1, none⟩ = some (.int .i64 ug) ∧ W.cell? ⟨w.heap.size, 2, none⟩ = some (.int .i64 ub) ∧ W.cell? ⟨w.heap.size, 3, none⟩ = some (.int .i64 ua) ∧ W.cell? ⟨w.heap.size + 1, 0, none⟩ = some (.int .i64 ux) ∧ W.cell? ⟨w.heap.size + 1, 1, none⟩ = some (.int .i64 uy) ∧ W.cell? ⟨w.heap.size + 1, 2, none⟩ = some (.int .i64 uz) ∧ W.cell? ⟨w.heap.size + 1, 3, none⟩ = some (.int .i64 uv) ∧ W.cell? ⟨Mb, 0, none⟩ = some (.int .i64 m0) ∧ W.cell? ⟨Mb, 1, none⟩ = some (.int .i64 m1) ∧ W.cell? ⟨Mb, 2, none⟩ = some (.int .i64 m2) ∧ W.cell? ⟨Mb, 3, none⟩ = some (.int .i64 0))
        (first | exact HS | assumption | exact up3 (by assumption) hg)
        (first | (go_at_call 24; (with_reducible refine (C7.out _).mono ?_); rintro e w1 ⟨rfl, hg⟩) | (go_at_call 24; (with_reducible refine (C8.out _).mono ?_); rintro e w1 ⟨rfl, hg⟩) | (go_at_call 24; (with_reducible refine (C9.out _).mono ?_); rintro e w1 ⟨rfl, hg⟩) | (go_at_call 24; (with_reducible refine (C0.out _).mono ?_); rintro e w1 ⟨rfl, hg⟩) | (go_at_call 21; (with_reducible refine (AW.out _ (And.left (And.right (by assumption)))).mono ?_); rintro e w1 ⟨rfl, hg⟩))
      go_wp2
      go_ret
      exact ⟨rfl, And.left (by assumption)⟩

end Go.Proofs.YtmekcgbljpeglaaDoor
