import Derived.Test.YtmekcgbljpeglaaDoorProg
import Derived.WalkKit
import Derived.WalkLawsBesides
import Derived.Outline
import Derived.Lib.Walk
import Derived.Deep.QuietTactic
import Derived.BigQuiet
import Derived.RowKit3
import Derived.Deep.LoopGhost
import Derived.Laws.Rows
import Derived.Laws.Tables
import Derived.Laws.CopyOwn
import Derived.Lib.Hide
import Derived.Handy
import Derived.Deep.Onto
import Derived.IntWalk
import Derived.Deep.RegionHeld3
import Derived.Test.YtmekcgbljpeglaaDoorA1
import Derived.Test.YtmekcgbljpeglaaDoorA2
import Derived.Test.YtmekcgbljpeglaaDoorEQ
import Derived.Test.YtmekcgbljpeglaaDoorB1
import Derived.Test.YtmekcgbljpeglaaDoorB2
import Derived.Test.YtmekcgbljpeglaaDoorB3
import Derived.Test.YtmekcgbljpeglaaDoorB4
import Derived.Test.YtmekcgbljpeglaaDoorB5
import Derived.Test.YtmekcgbljpeglaaDoorB7
import Derived.Test.YtmekcgbljpeglaaDoorU3
import Derived.Test.YtmekcgbljpeglaaDoorT1
import Derived.Test.YtmekcgbljpeglaaDoorK33
import Derived.Test.YtmekcgbljpeglaaDoorK35
namespace Go.Proofs.YtmekcgbljpeglaaDoor
open Go.RowKit
set_option maxHeartbeats 400000
set_option linter.unusedVariables false
theorem awD13 : ∀ w, Calls Tryd.prog 13 #[.agg #[.int .i64 (-1), .int .i64 70000, .int .i64 5, .int .i64 0]] w fun e w' => e = .returned (.agg #[.int .i64 0, .int .i64 65535, .int .i64 5, .int .i64 0]) ∧ Below w.heap.size w w' :=
  fun w => (show .agg #[.int .i64 0, .int .i64 65535, .int .i64 5, .int .i64 0] = (Px.lim ⟨-1, 70000, 5, 0⟩).val by kernel_rfl) ▸ k13 ⟨-1, 70000, 5, 0⟩ w
theorem awD15 : ∀ w, Calls Tryd.prog 15 #[.agg #[.int .i64 65535, .int .i64 32768, .int .i64 0, .int .i64 32768]] w fun e w' => e = .returned (.agg #[.int .i64 32768, .int .i64 16384, .int .i64 0, .int .i64 32768]) ∧ Below w.heap.size w w' :=
  fun w => (show .agg #[.int .i64 32768, .int .i64 16384, .int .i64 0, .int .i64 32768] = (Px.pre ⟨65535, 32768, 0, 32768⟩).val by kernel_rfl) ▸ k15 ⟨65535, 32768, 0, 32768⟩ w
theorem awD17 : ∀ w, Calls Tryd.prog 17 #[.agg #[.int .i64 32768, .int .i64 16384, .int .i64 0, .int .i64 32768]] w fun e w' => e = .returned (.agg #[.int .i64 65535, .int .i64 32768, .int .i64 0, .int .i64 32768]) ∧ Below w.heap.size w w' :=
  fun w => (show .agg #[.int .i64 65535, .int .i64 32768, .int .i64 0, .int .i64 32768] = (Px.str ⟨32768, 16384, 0, 32768⟩).val by kernel_rfl) ▸ k17 ⟨32768, 16384, 0, 32768⟩ w
theorem awD19 : ∀ w, Calls Tryd.prog 19 #[.agg #[.int .i64 1, .int .i64 2, .int .i64 3, .int .i64 65535], .int .i64 100] w fun e w' => e = .returned (.agg #[.int .i64 1, .int .i64 2, .int .i64 3, .int .i64 100]) ∧ Below w.heap.size w w' :=
  fun w => (show .agg #[.int .i64 1, .int .i64 2, .int .i64 3, .int .i64 100] = (Px.fade ⟨1, 2, 3, 65535⟩ 100).val by kernel_rfl) ▸ k19 ⟨1, 2, 3, 65535⟩ 100 w
theorem awD22 : ∀ w, Calls Tryd.prog 22 #[.agg #[.int .i64 0, .int .i64 0, .int .i64 0, .int .i64 65535], .agg #[.int .i64 65535, .int .i64 0, .int .i64 0, .int .i64 65535], .int .i64 32768] w fun e w' => e = .returned (.agg #[.int .i64 32768, .int .i64 0, .int .i64 0, .int .i64 65535]) ∧ Below w.heap.size w w' :=
  fun w => (show .agg #[.int .i64 32768, .int .i64 0, .int .i64 0, .int .i64 65535] = (Px.mix ⟨0, 0, 0, 65535⟩ ⟨65535, 0, 0, 65535⟩ 32768).val by kernel_rfl) ▸ k22 ⟨0, 0, 0, 65535⟩ ⟨65535, 0, 0, 65535⟩ 32768 w
theorem awD24 : ∀ w, Calls Tryd.prog 24 #[.agg #[.int .i64 65535, .int .i64 0, .int .i64 0, .int .i64 65535]] w fun e w' => e = .returned (.int .i64 13933) ∧ Below w.heap.size w w' :=
  fun w => (show (13933 : Int) = Px.luma ⟨65535, 0, 0, 65535⟩ by kernel_rfl) ▸ k24 ⟨65535, 0, 0, 65535⟩ w
theorem awD26 : ∀ w, Calls Tryd.prog 26 #[.agg #[.int .i64 0, .int .i64 0, .int .i64 0, .int .i64 0], .agg #[.int .i64 5, .int .i64 0, .int .i64 9, .int .i64 2]] w fun e w' => e = .returned (.int .i64 9) ∧ Below w.heap.size w w' :=
  fun w => (show (9 : Int) = Px.dist ⟨0, 0, 0, 0⟩ ⟨5, 0, 9, 2⟩ by kernel_rfl) ▸ k26 ⟨0, 0, 0, 0⟩ ⟨5, 0, 9, 2⟩ w
theorem awD28 : ∀ w, Calls Tryd.prog 28 #[.int .i64 255] w fun e w' => e = .returned (.int .i64 65535) ∧ Below w.heap.size w w' :=
  fun w => (k28 255 w).mono fun e w' h => ⟨by rw [h.1, show fr8 255 = 65535 by kernel_rfl], by rw [← h.2]; exact Below.refl _ _⟩
theorem awD30 : ∀ w, Calls Tryd.prog 30 #[.int .i64 128] w fun e w' => e = .returned (.int .i64 0) ∧ Below w.heap.size w w' :=
  fun w => (k30 128 w).mono fun e w' ⟨h, k, h'⟩ => ⟨by rw [h, show to8 128 = 0 by kernel_rfl], by rw [h']; exact bel_drewN k⟩
theorem awD31 : ∀ w, Calls Tryd.prog 30 #[.int .i64 129] w fun e w' => e = .returned (.int .i64 1) ∧ Below w.heap.size w w' :=
  fun w => (k30 129 w).mono fun e w' ⟨h, k, h'⟩ => ⟨by rw [h, show to8 129 = 1 by kernel_rfl], by rw [h']; exact bel_drewN k⟩
theorem awD34 : ∀ w, Calls Tryd.prog 34 #[.agg #[.int .i64 65535, .int .i64 0, .int .i64 32768, .int .i64 65535]] w fun e w' => e = .returned (.string ⟨#[35, 102, 102, 48, 48, 56, 48, 102, 102]⟩) ∧ Below w.heap.size w w' :=
  fun w => (show (⟨#[35, 102, 102, 48, 48, 56, 48, 102, 102]⟩ : ByteArray) = mkS (Px.txt ⟨65535, 0, 32768, 65535⟩) by kernel_rfl) ▸ k34 ⟨65535, 0, 32768, 65535⟩ w
theorem awD11 : ∀ w, Calls Tryd.prog 11 #[.agg #[.int .i64 65535, .int .i64 32768, .int .i64 0, .int .i64 32768]] w fun e w' => e = .returned (.bool true) ∧ Below w.heap.size w w' :=
  fun w => (show true = Px.vld ⟨65535, 32768, 0, 32768⟩ by kernel_rfl) ▸ k11 ⟨65535, 32768, 0, 32768⟩ w
theorem awD12 : ∀ w, Calls Tryd.prog 11 #[.agg #[.int .i64 (-1), .int .i64 0, .int .i64 0, .int .i64 0]] w fun e w' => e = .returned (.bool false) ∧ Below w.heap.size w w' :=
  fun w => (show false = Px.vld ⟨-1, 0, 0, 0⟩ by kernel_rfl) ▸ k11 ⟨-1, 0, 0, 0⟩ w
theorem awPA : ∀ w, Err2 w → Calls Tryd.prog 32 #[.string ⟨#[35, 102, 48, 97]⟩] w fun e w' => e = .returned (.tuple #[.agg #[.int .i64 65535, .int .i64 0, .int .i64 43690, .int .i64 65535], .int .i64 0]) ∧ Below w.heap.size w w' := fun w hE =>
  (show Value.tuple #[.agg #[.int .i64 65535, .int .i64 0, .int .i64 43690, .int .i64 65535], .int .i64 0] = .tuple #[(parseF [35, 102, 48, 97]).1.val, .int .i64 (parseF [35, 102, 48, 97]).2] by kernel_rfl) ▸ k32_ret [35, 102, 48, 97] w hE
theorem awPB : ∀ w, Err2 w → Calls Tryd.prog 32 #[.string ⟨#[35, 49, 50, 51, 52, 53]⟩] w fun e w' => e = .returned (.tuple #[.agg #[.int .i64 0, .int .i64 0, .int .i64 0, .int .i64 0], .int .i64 4]) ∧ Below w.heap.size w w' := fun w hE =>
  (show Value.tuple #[.agg #[.int .i64 0, .int .i64 0, .int .i64 0, .int .i64 0], .int .i64 4] = .tuple #[(parseF [35, 49, 50, 51, 52, 53]).1.val, .int .i64 (parseF [35, 49, 50, 51, 52, 53]).2] by kernel_rfl) ▸ k32_ret [35, 49, 50, 51, 52, 53] w hE

theorem aw_up {a W W' : World} {k0 k1 k2 k3 : Nat} {x00 x01 x02 x03 x10 x11 x12 x13 x20 x21 x22 x23 x30 x31 x32 x33 : Int} (h : Below a.heap.size a W ∧ k0 < W.heap.size ∧ k1 < W.heap.size ∧ k2 < W.heap.size ∧ k3 < W.heap.size ∧ W.cell? ⟨k0, 0, none⟩ = some (.int .i64 x00) ∧ W.cell? ⟨k0, 1, none⟩ = some (.int .i64 x01) ∧ W.cell? ⟨k0, 2, none⟩ = some (.int .i64 x02) ∧ W.cell? ⟨k0, 3, none⟩ = some (.int .i64 x03) ∧ W.cell? ⟨k1, 0, none⟩ = some (.int .i64 x10) ∧ W.cell? ⟨k1, 1, none⟩ = some (.int .i64 x11) ∧ W.cell? ⟨k1, 2, none⟩ = some (.int .i64 x12) ∧ W.cell? ⟨k1, 3, none⟩ = some (.int .i64 x13) ∧ W.cell? ⟨k2, 0, none⟩ = some (.int .i64 x20) ∧ W.cell? ⟨k2, 1, none⟩ = some (.int .i64 x21) ∧ W.cell? ⟨k2, 2, none⟩ = some (.int .i64 x22) ∧ W.cell? ⟨k2, 3, none⟩ = some (.int .i64 x23) ∧ W.cell? ⟨k3, 0, none⟩ = some (.int .i64 x30) ∧ W.cell? ⟨k3, 1, none⟩ = some (.int .i64 x31) ∧ W.cell? ⟨k3, 2, none⟩ = some (.int .i64 x32) ∧ W.cell? ⟨k3, 3, none⟩ = some (.int .i64 x33)) (hg : Below W.heap.size W W') : Below a.heap.size a W' ∧ k0 < W'.heap.size ∧ k1 < W'.heap.size ∧ k2 < W'.heap.size ∧ k3 < W'.heap.size ∧ W'.cell? ⟨k0, 0, none⟩ = some (.int .i64 x00) ∧ W'.cell? ⟨k0, 1, none⟩ = some (.int .i64 x01) ∧ W'.cell? ⟨k0, 2, none⟩ = some (.int .i64 x02) ∧ W'.cell? ⟨k0, 3, none⟩ = some (.int .i64 x03) ∧ W'.cell? ⟨k1, 0, none⟩ = some (.int .i64 x10) ∧ W'.cell? ⟨k1, 1, none⟩ = some (.int .i64 x11) ∧ W'.cell? ⟨k1, 2, none⟩ = some (.int .i64 x12) ∧ W'.cell? ⟨k1, 3, none⟩ = some (.int .i64 x13) ∧ W'.cell? ⟨k2, 0, none⟩ = some (.int .i64 x20) ∧ W'.cell? ⟨k2, 1, none⟩ = some (.int .i64 x21) ∧ W'.cell? ⟨k2, 2, none⟩ = some (.int .i64 x22) ∧ W'.cell? ⟨k2, 3, none⟩ = some (.int .i64 x23) ∧ W'.cell? ⟨k3, 0, none⟩ = some (.int .i64 x30) ∧ W'.cell? ⟨k3, 1, none⟩ = some (.int .i64 x31) ∧ W'.cell? ⟨k3, 2, none⟩ = some (.int .i64 x32) ∧ W'.cell? ⟨k3, 3, none⟩ = some (.int .i64 x33) := by
  obtain ⟨h0, g0, g1, g2, g3, c00, c01, c02, c03, c10, c11, c12, c13, c20, c21, c22, c23, c30, c31, c32, c33⟩ := h
  have := hg.size
  exact ⟨bel_trans h0 hg, by omega, by omega, by omega, by omega, (hg.cell (p := ⟨k0, 0, none⟩) g0).trans c00, (hg.cell (p := ⟨k0, 1, none⟩) g0).trans c01, (hg.cell (p := ⟨k0, 2, none⟩) g0).trans c02, (hg.cell (p := ⟨k0, 3, none⟩) g0).trans c03, (hg.cell (p := ⟨k1, 0, none⟩) g1).trans c10, (hg.cell (p := ⟨k1, 1, none⟩) g1).trans c11, (hg.cell (p := ⟨k1, 2, none⟩) g1).trans c12, (hg.cell (p := ⟨k1, 3, none⟩) g1).trans c13, (hg.cell (p := ⟨k2, 0, none⟩) g2).trans c20, (hg.cell (p := ⟨k2, 1, none⟩) g2).trans c21, (hg.cell (p := ⟨k2, 2, none⟩) g2).trans c22, (hg.cell (p := ⟨k2, 3, none⟩) g2).trans c23, (hg.cell (p := ⟨k3, 0, none⟩) g3).trans c30, (hg.cell (p := ⟨k3, 1, none⟩) g3).trans c31, (hg.cell (p := ⟨k3, 2, none⟩) g3).trans c32, (hg.cell (p := ⟨k3, 3, none⟩) g3).trans c33⟩
theorem Err2.gr {w w' : World} (h : Err2 w) (hb : Below w.heap.size w w') : Err2 w' := h.below hb h.lt
set_option maxHeartbeats 8000000 in
theorem l21 (w : World) (hE : Err2 w) : Calls Tryd.prog 21 #[] w fun e w' => e = .returned (.bool true) ∧ Below w.heap.size w w' := by
  have q0 : ∀ W, (binOp .eql 23 (.agg #[.int .i64 0, .int .i64 65535, .int .i64 5, .int .i64 0]) (.agg #[.int .i64 0, .int .i64 65535, .int .i64 5, .int .i64 0])).run Tryd.prog W = .ok (.bool true) W := fun W => (show true = Px.same ⟨0, 65535, 5, 0⟩ ⟨0, 65535, 5, 0⟩ by kernel_rfl) ▸ eqPx ⟨0, 65535, 5, 0⟩ ⟨0, 65535, 5, 0⟩ W
  have q1 : ∀ W, (binOp .eql 23 (.agg #[.int .i64 32768, .int .i64 16384, .int .i64 0, .int .i64 32768]) (.agg #[.int .i64 32768, .int .i64 16384, .int .i64 0, .int .i64 32768])).run Tryd.prog W = .ok (.bool true) W := fun W => (show true = Px.same ⟨32768, 16384, 0, 32768⟩ ⟨32768, 16384, 0, 32768⟩ by kernel_rfl) ▸ eqPx ⟨32768, 16384, 0, 32768⟩ ⟨32768, 16384, 0, 32768⟩ W
  have q2 : ∀ W, (binOp .eql 23 (.agg #[.int .i64 65535, .int .i64 32768, .int .i64 0, .int .i64 32768]) (.agg #[.int .i64 65535, .int .i64 32768, .int .i64 0, .int .i64 32768])).run Tryd.prog W = .ok (.bool true) W := fun W => (show true = Px.same ⟨65535, 32768, 0, 32768⟩ ⟨65535, 32768, 0, 32768⟩ by kernel_rfl) ▸ eqPx ⟨65535, 32768, 0, 32768⟩ ⟨65535, 32768, 0, 32768⟩ W
  have q3 : ∀ W, (binOp .eql 23 (.agg #[.int .i64 1, .int .i64 2, .int .i64 3, .int .i64 100]) (.agg #[.int .i64 1, .int .i64 2, .int .i64 3, .int .i64 100])).run Tryd.prog W = .ok (.bool true) W := fun W => (show true = Px.same ⟨1, 2, 3, 100⟩ ⟨1, 2, 3, 100⟩ by kernel_rfl) ▸ eqPx ⟨1, 2, 3, 100⟩ ⟨1, 2, 3, 100⟩ W
  have q4 : ∀ W, (binOp .eql 23 (.agg #[.int .i64 32768, .int .i64 0, .int .i64 0, .int .i64 65535]) (.agg #[.int .i64 32768, .int .i64 0, .int .i64 0, .int .i64 65535])).run Tryd.prog W = .ok (.bool true) W := fun W => (show true = Px.same ⟨32768, 0, 0, 65535⟩ ⟨32768, 0, 0, 65535⟩ by kernel_rfl) ▸ eqPx ⟨32768, 0, 0, 65535⟩ ⟨32768, 0, 0, 65535⟩ W
  have q5 : ∀ W, (binOp .eql 23 (.agg #[.int .i64 65535, .int .i64 0, .int .i64 43690, .int .i64 65535]) (.agg #[.int .i64 65535, .int .i64 0, .int .i64 43690, .int .i64 65535])).run Tryd.prog W = .ok (.bool true) W := fun W => (show true = Px.same ⟨65535, 0, 43690, 65535⟩ ⟨65535, 0, 43690, 65535⟩ by kernel_rfl) ▸ eqPx ⟨65535, 0, 43690, 65535⟩ ⟨65535, 0, 43690, 65535⟩ W
  have D13 := Lib.hid awD13
  have D15 := Lib.hid awD15
  have D17 := Lib.hid awD17
  have D19 := Lib.hid awD19
  have D22 := Lib.hid awD22
  have D24 := Lib.hid awD24
  have D26 := Lib.hid awD26
  have D28 := Lib.hid awD28
  have D30 := Lib.hid awD30
  have D31 := Lib.hid awD31
  have D34 := Lib.hid awD34
  have D11 := Lib.hid awD11
  have D12 := Lib.hid awD12
  have DA := Lib.hid awPA
  have DB := Lib.hid awPB
  have HE := Lib.hid hE
  clear hE
  have htx : (#[35, 102, 102, 48, 48, 56, 48, 102, 102] : Array UInt8) = #[35, 102, 102, 48, 48, 56, 48, 102, 102] := rfl
  go_enter Tryd.func21, Tryd.ntmps21
  go_wp2_with (go_at_call 32; fail)
  have B0 : Below w.heap.size w (w.alloc (.cells #[.int .i64 65535, .int .i64 32768, .int .i64 0, .int .i64 32768] 23)) := bel_al (Below.refl _ _) _
  (with_reducible refine (DA.out _ (HE.out.gr B0)).mono ?_)
  rintro e1 W1 ⟨rfl, hg⟩
  have R1 : rec4 W1 w.heap.size 65535 32768 0 32768 := (rec4.new w _ _ _ _ 23).below hg (by simp)
  have z1 : w.heap.size < W1.heap.size := by have := hg.size; simp at this; omega
  have B1 := bel_trans B0 hg
  clear hg B0
  go_wp2_with (go_at_call 32; fail)
  have B2 : Below w.heap.size w (W1.alloc (.cells #[.int .i64 65535, .int .i64 0, .int .i64 43690, .int .i64 65535] 23)) := bel_al B1 _
  (with_reducible refine (DB.out _ (HE.out.gr B2)).mono ?_)
  rintro e2 W2 ⟨rfl, hg⟩
  have R2 : rec4 W2 w.heap.size 65535 32768 0 32768 := (R1.alloc _ z1).below hg (by simp; omega)
  have R3 : rec4 W2 W1.heap.size 65535 0 43690 65535 := (rec4.new W1 _ _ _ _ 23).below hg (by simp)
  have z2 : w.heap.size < W2.heap.size := by have := hg.size; simp at this; omega
  have z3 : W1.heap.size < W2.heap.size := by have := hg.size; simp at this; omega
  have B3 := bel_trans B2 hg
  clear hg B1 B2 R1 z1
  go_wp2_with fail
  obtain ⟨p1, hp1⟩ : ∃ p1, p1 = w.heap.size := ⟨_, rfl⟩
  obtain ⟨p2, hp2⟩ : ∃ p2, p2 = W1.heap.size := ⟨_, rfl⟩
  have E2 : ∃ X, X = (((W2.alloc (.cells #[.int .i64 0, .int .i64 0, .int .i64 0, .int .i64 0] 23)).alloc (.cells #[.int .i64 0, .int .i64 0, .int .i64 0, .int .i64 65535] 23)).alloc (.cells #[.int .i64 65535, .int .i64 0, .int .i64 0, .int .i64 65535] 23)) := ⟨_, rfl⟩
  have R00 : rec4 (((W2.alloc (.cells #[.int .i64 0, .int .i64 0, .int .i64 0, .int .i64 0] 23)).alloc (.cells #[.int .i64 0, .int .i64 0, .int .i64 0, .int .i64 65535] 23)).alloc (.cells #[.int .i64 65535, .int .i64 0, .int .i64 0, .int .i64 65535] 23)) w.heap.size 65535 32768 0 32768 := ((R2.alloc _ z2).alloc _ (by simp; omega)).alloc _ (by simp; omega)
  have R01 : rec4 (((W2.alloc (.cells #[.int .i64 0, .int .i64 0, .int .i64 0, .int .i64 0] 23)).alloc (.cells #[.int .i64 0, .int .i64 0, .int .i64 0, .int .i64 65535] 23)).alloc (.cells #[.int .i64 65535, .int .i64 0, .int .i64 0, .int .i64 65535] 23)) W1.heap.size 65535 0 43690 65535 := ((R3.alloc _ z3).alloc _ (by simp; omega)).alloc _ (by simp; omega)
  have R02 : rec4 (((W2.alloc (.cells #[.int .i64 0, .int .i64 0, .int .i64 0, .int .i64 0] 23)).alloc (.cells #[.int .i64 0, .int .i64 0, .int .i64 0, .int .i64 65535] 23)).alloc (.cells #[.int .i64 65535, .int .i64 0, .int .i64 0, .int .i64 65535] 23)) (W2.heap.size + 1) 0 0 0 65535 := by
    have := (rec4.new (W2.alloc (.cells #[.int .i64 0, .int .i64 0, .int .i64 0, .int .i64 0] 23)) 0 0 0 65535 23).alloc (.cells #[.int .i64 65535, .int .i64 0, .int .i64 0, .int .i64 65535] 23) (by simp)
    simpa using this
  have R03 : rec4 (((W2.alloc (.cells #[.int .i64 0, .int .i64 0, .int .i64 0, .int .i64 0] 23)).alloc (.cells #[.int .i64 0, .int .i64 0, .int .i64 0, .int .i64 65535] 23)).alloc (.cells #[.int .i64 65535, .int .i64 0, .int .i64 0, .int .i64 65535] 23)) (W2.heap.size + 2) 65535 0 0 65535 := by
    have := rec4.new ((W2.alloc (.cells #[.int .i64 0, .int .i64 0, .int .i64 0, .int .i64 0] 23)).alloc (.cells #[.int .i64 0, .int .i64 0, .int .i64 0, .int .i64 65535] 23)) 65535 0 0 65535 23
    simpa using this
  have z00 : w.heap.size < (((W2.alloc (.cells #[.int .i64 0, .int .i64 0, .int .i64 0, .int .i64 0] 23)).alloc (.cells #[.int .i64 0, .int .i64 0, .int .i64 0, .int .i64 65535] 23)).alloc (.cells #[.int .i64 65535, .int .i64 0, .int .i64 0, .int .i64 65535] 23)).heap.size := by simp; omega
  have z01 : W1.heap.size < (((W2.alloc (.cells #[.int .i64 0, .int .i64 0, .int .i64 0, .int .i64 0] 23)).alloc (.cells #[.int .i64 0, .int .i64 0, .int .i64 0, .int .i64 65535] 23)).alloc (.cells #[.int .i64 65535, .int .i64 0, .int .i64 0, .int .i64 65535] 23)).heap.size := by simp; omega
  have z02 : W2.heap.size + 1 < (((W2.alloc (.cells #[.int .i64 0, .int .i64 0, .int .i64 0, .int .i64 0] 23)).alloc (.cells #[.int .i64 0, .int .i64 0, .int .i64 0, .int .i64 65535] 23)).alloc (.cells #[.int .i64 65535, .int .i64 0, .int .i64 0, .int .i64 65535] 23)).heap.size := by simp
  have z03 : W2.heap.size + 2 < (((W2.alloc (.cells #[.int .i64 0, .int .i64 0, .int .i64 0, .int .i64 0] 23)).alloc (.cells #[.int .i64 0, .int .i64 0, .int .i64 0, .int .i64 65535] 23)).alloc (.cells #[.int .i64 65535, .int .i64 0, .int .i64 0, .int .i64 65535] 23)).heap.size := by simp
  have B00 : Below w.heap.size w (((W2.alloc (.cells #[.int .i64 0, .int .i64 0, .int .i64 0, .int .i64 0] 23)).alloc (.cells #[.int .i64 0, .int .i64 0, .int .i64 0, .int .i64 65535] 23)).alloc (.cells #[.int .i64 65535, .int .i64 0, .int .i64 0, .int .i64 65535] 23)) := bel_al (bel_al (bel_al B3 _) _) _
  clear E2 R2 R3 z2 z3 B3 hp1 hp2 p1 p2
  generalize (((W2.alloc (.cells #[.int .i64 0, .int .i64 0, .int .i64 0, .int .i64 0] 23)).alloc (.cells #[.int .i64 0, .int .i64 0, .int .i64 0, .int .i64 65535] 23)).alloc (.cells #[.int .i64 65535, .int .i64 0, .int .i64 0, .int .i64 65535] 23)) = V0 at *
  obtain ⟨⟨c00, c01, c02, c03⟩, f0⟩ := R00.cells
  clear f0
  obtain ⟨⟨c10, c11, c12, c13⟩, f1⟩ := R01.cells
  clear f1
  obtain ⟨⟨c20, c21, c22, c23⟩, f2⟩ := R02.cells
  clear f2
  obtain ⟨⟨c30, c31, c32, c33⟩, f3⟩ := R03.cells
  clear f3
  have HS : Below w.heap.size w V0.drew ∧ w.heap.size < V0.drew.heap.size ∧ W1.heap.size < V0.drew.heap.size ∧ W2.heap.size + 1 < V0.drew.heap.size ∧ W2.heap.size + 2 < V0.drew.heap.size ∧ V0.drew.cell? ⟨w.heap.size, 0, none⟩ = some (.int .i64 65535) ∧ V0.drew.cell? ⟨w.heap.size, 1, none⟩ = some (.int .i64 32768) ∧ V0.drew.cell? ⟨w.heap.size, 2, none⟩ = some (.int .i64 0) ∧ V0.drew.cell? ⟨w.heap.size, 3, none⟩ = some (.int .i64 32768) ∧ V0.drew.cell? ⟨W1.heap.size, 0, none⟩ = some (.int .i64 65535) ∧ V0.drew.cell? ⟨W1.heap.size, 1, none⟩ = some (.int .i64 0) ∧ V0.drew.cell? ⟨W1.heap.size, 2, none⟩ = some (.int .i64 43690) ∧ V0.drew.cell? ⟨W1.heap.size, 3, none⟩ = some (.int .i64 65535) ∧ V0.drew.cell? ⟨W2.heap.size + 1, 0, none⟩ = some (.int .i64 0) ∧ V0.drew.cell? ⟨W2.heap.size + 1, 1, none⟩ = some (.int .i64 0) ∧ V0.drew.cell? ⟨W2.heap.size + 1, 2, none⟩ = some (.int .i64 0) ∧ V0.drew.cell? ⟨W2.heap.size + 1, 3, none⟩ = some (.int .i64 65535) ∧ V0.drew.cell? ⟨W2.heap.size + 2, 0, none⟩ = some (.int .i64 65535) ∧ V0.drew.cell? ⟨W2.heap.size + 2, 1, none⟩ = some (.int .i64 0) ∧ V0.drew.cell? ⟨W2.heap.size + 2, 2, none⟩ = some (.int .i64 0) ∧ V0.drew.cell? ⟨W2.heap.size + 2, 3, none⟩ = some (.int .i64 65535) := ⟨bel_dr B00 1, z00, z01, z02, z03, c00, c01, c02, c03, c10, c11, c12, c13, c20, c21, c22, c23, c30, c31, c32, c33⟩
  clear B00 z00 z01 z02 z03 R00 R01 R02 R03 c00 c01 c02 c03 c10 c11 c12 c13 c20 c21 c22 c23 c30 c31 c32 c33 DA DB HE
  simp only [List.append]
  go_region_held3 (fun W => Below w.heap.size w W ∧ w.heap.size < W.heap.size ∧ W1.heap.size < W.heap.size ∧ W2.heap.size + 1 < W.heap.size ∧ W2.heap.size + 2 < W.heap.size ∧ W.cell? ⟨w.heap.size, 0, none⟩ = some (.int .i64 65535) ∧ W.cell? ⟨w.heap.size, 1, none⟩ = some (.int .i64 32768) ∧ W.cell? ⟨w.heap.size, 2, none⟩ = some (.int .i64 0) ∧ W.cell? ⟨w.heap.size, 3, none⟩ = some (.int .i64 32768) ∧ W.cell? ⟨W1.heap.size, 0, none⟩ = some (.int .i64 65535) ∧ W.cell? ⟨W1.heap.size, 1, none⟩ = some (.int .i64 0) ∧ W.cell? ⟨W1.heap.size, 2, none⟩ = some (.int .i64 43690) ∧ W.cell? ⟨W1.heap.size, 3, none⟩ = some (.int .i64 65535) ∧ W.cell? ⟨W2.heap.size + 1, 0, none⟩ = some (.int .i64 0) ∧ W.cell? ⟨W2.heap.size + 1, 1, none⟩ = some (.int .i64 0) ∧ W.cell? ⟨W2.heap.size + 1, 2, none⟩ = some (.int .i64 0) ∧ W.cell? ⟨W2.heap.size + 1, 3, none⟩ = some (.int .i64 65535) ∧ W.cell? ⟨W2.heap.size + 2, 0, none⟩ = some (.int .i64 65535) ∧ W.cell? ⟨W2.heap.size + 2, 1, none⟩ = some (.int .i64 0) ∧ W.cell? ⟨W2.heap.size + 2, 2, none⟩ = some (.int .i64 0) ∧ W.cell? ⟨W2.heap.size + 2, 3, none⟩ = some (.int .i64 65535))
    (first | exact HS | assumption | exact aw_up (by assumption) hg)
    (first | (go_at_call 13; (with_reducible refine (D13.out _).mono ?_); rintro e w1 ⟨rfl, hg⟩) | (go_at_call 15; (with_reducible refine (D15.out _).mono ?_); rintro e w1 ⟨rfl, hg⟩) | (go_at_call 17; (with_reducible refine (D17.out _).mono ?_); rintro e w1 ⟨rfl, hg⟩) | (go_at_call 19; (with_reducible refine (D19.out _).mono ?_); rintro e w1 ⟨rfl, hg⟩) | (go_at_call 22; (with_reducible refine (D22.out _).mono ?_); rintro e w1 ⟨rfl, hg⟩) | (go_at_call 24; (with_reducible refine (D24.out _).mono ?_); rintro e w1 ⟨rfl, hg⟩) | (go_at_call 26; (with_reducible refine (D26.out _).mono ?_); rintro e w1 ⟨rfl, hg⟩) | (go_at_call 28; (with_reducible refine (D28.out _).mono ?_); rintro e w1 ⟨rfl, hg⟩) | (go_at_call 30; (with_reducible refine (D30.out _).mono ?_); rintro e w1 ⟨rfl, hg⟩) | (go_at_call 30; (with_reducible refine (D31.out _).mono ?_); rintro e w1 ⟨rfl, hg⟩) | (go_at_call 34; (with_reducible refine (D34.out _).mono ?_); rintro e w1 ⟨rfl, hg⟩) | (go_at_call 11; (with_reducible refine (D11.out _).mono ?_); rintro e w1 ⟨rfl, hg⟩) | (go_at_call 11; (with_reducible refine (D12.out _).mono ?_); rintro e w1 ⟨rfl, hg⟩))
  go_wp2
  go_ret
  exact ⟨rfl, And.left (by assumption)⟩

end Go.Proofs.YtmekcgbljpeglaaDoor
