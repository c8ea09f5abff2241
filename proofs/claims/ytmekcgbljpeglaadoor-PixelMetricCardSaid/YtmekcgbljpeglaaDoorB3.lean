import Derived.Test.YtmekcgbljpeglaaDoorProg
import Derived.WalkKit
import Derived.WalkLawsBesides
import Derived.Outline
import Derived.Lib.Walk
import Derived.Deep.QuietTactic
import Derived.BigQuiet
import Derived.RowKit3
import Derived.Deep.LoopGhost
import Derived.Laws.Rows
import Derived.Laws.Tables
import Derived.Laws.CopyOwn
import Derived.Lib.Hide
import Derived.Handy
import Derived.Deep.Onto
import Derived.Test.YtmekcgbljpeglaaDoorA1
import Derived.Test.YtmekcgbljpeglaaDoorA2
import Derived.Test.YtmekcgbljpeglaaDoorQT
import Derived.Test.YtmekcgbljpeglaaDoorEQ
import Derived.Test.YtmekcgbljpeglaaDoorB1
namespace Go.Proofs.YtmekcgbljpeglaaDoor
open Go.RowKit
set_option maxHeartbeats 400000
set_option linter.unusedVariables false

theorem bel_up {w W w1 : World} (hg : Below W.heap.size W w1) (h : Below w.heap.size w W) : Below w.heap.size w w1 := bel_trans h hg
theorem k19 (p : Px) (t : Int) (w : World) : Calls Tryd.prog 19 #[p.val, .int .i64 t] w fun e w' => e = .returned (p.fade t).val ∧ Below w.heap.size w w' := by
  obtain ⟨r, g, b, a⟩ := p
  have c1 := fun w => k13 ⟨r, g, b, a⟩ w
  unfold Px.val Px.lim at c1
  dsimp only at c1
  have C1 := Lib.hid c1
  clear c1
  have c2 : ∀ w, Calls Tryd.prog 41 #[.int .i64 (un a), .int .i64 t] w fun e w' => e = .returned (.int .i64 (mulu a t)) ∧ Below w.heap.size w w' := fun w => (t19 (un a) t w).mono fun e w' ⟨h, k, h'⟩ => ⟨by rw [h, mulu_un], by rw [h']; exact bel_drewN k⟩
  unfold Px.fade
  dsimp only
  obtain ⟨M, hM⟩ : ∃ M, M = mulu a t := ⟨_, rfl⟩
  rw [← hM] at c2 ⊢
  clear hM
  have C2 := Lib.hid c2
  clear c2
  generalize un r = ur at *
  generalize un g = ug at *
  generalize un b = ub at *
  generalize un a = ua at *
  by_cases h0 : M = 0
  · rw [if_pos h0]
    subst h0
    unfold Px.val
    go_enter Tryd.func19, Tryd.ntmps19
    have R00 : rec4 ((w.alloc (.cells #[.int .i64 r, .int .i64 g, .int .i64 b, .int .i64 a] 23)).alloc (.cells #[.int .i64 0, .int .i64 0, .int .i64 0, .int .i64 0] 23)) w.heap.size r g b a := rec4.alloc (rec4.new w r g b a 23) _ (by simp)
    have R01 : rec4 ((w.alloc (.cells #[.int .i64 r, .int .i64 g, .int .i64 b, .int .i64 a] 23)).alloc (.cells #[.int .i64 0, .int .i64 0, .int .i64 0, .int .i64 0] 23)) (w.heap.size + 1) 0 0 0 0 := by
      have := rec4.new (w.alloc (.cells #[.int .i64 r, .int .i64 g, .int .i64 b, .int .i64 a] 23)) 0 0 0 0 23
      simpa using this
    go_wp2_with (go_at_call 13; fail)
    (with_reducible refine (C1.out _).mono ?_)
    rintro e1 w1 ⟨rfl, hg⟩
    have hs1 := hg.size
    (try simp at hs1)
    have R10 : rec4 w1 (w.heap.size) (r) (g) (b) (a) := rec4.below (by with_reducible first | assumption | exact rec4.own (by assumption) | exact rec4.other (by assumption) _ _ _ _ (by omega) | exact rec4.own (rec4.other (by assumption) _ _ _ _ (by omega)) | exact rec4.other (rec4.own (by assumption)) _ _ _ _ (by omega) | exact rec4.drew (by assumption)) hg (by simp; try omega)
    have R11 : rec4 w1 (w.heap.size + 1) (0) (0) (0) (0) := rec4.below (by with_reducible first | assumption | exact rec4.own (by assumption) | exact rec4.other (by assumption) _ _ _ _ (by omega) | exact rec4.own (rec4.other (by assumption) _ _ _ _ (by omega)) | exact rec4.other (rec4.own (by assumption)) _ _ _ _ (by omega) | exact rec4.drew (by assumption)) hg (by simp; try omega)
    have B1 : Below w.heap.size w w1 := bel_up hg (by go_grown <;> first | exact Below.refl _ _ | exact B0 | exact bel_al (Below.refl _ _) _ | exact bel_al (bel_al (Below.refl _ _) _) _)
    have hz10 : w.heap.size < w1.heap.size := by omega
    have hz11 : w.heap.size + 1 < w1.heap.size := by omega
    clear hg
    obtain ⟨⟨c100, c101, c102, c103⟩, f100, f101, f102, f103⟩ := R10.cells
    obtain ⟨⟨c110, c111, c112, c113⟩, f110, f111, f112, f113⟩ := R11.cells
    go_wp2_with (go_at_call 41; fail)
    (with_reducible refine (C2.out _).mono ?_)
    rintro e2 w2 ⟨rfl, hg⟩
    have hs2 := hg.size
    (try simp at hs2)
    have R20 : rec4 w2 (w.heap.size) (ur) (ug) (ub) (ua) := rec4.below (by with_reducible first | assumption | exact rec4.own (by assumption) | exact rec4.other (by assumption) _ _ _ _ (by omega) | exact rec4.own (rec4.other (by assumption) _ _ _ _ (by omega)) | exact rec4.other (rec4.own (by assumption)) _ _ _ _ (by omega) | exact rec4.drew (by assumption)) hg (by simp; try omega)
    have R21 : rec4 w2 (w.heap.size + 1) (0) (0) (0) (0) := rec4.below (by with_reducible first | assumption | exact rec4.own (by assumption) | exact rec4.other (by assumption) _ _ _ _ (by omega) | exact rec4.own (rec4.other (by assumption) _ _ _ _ (by omega)) | exact rec4.other (rec4.own (by assumption)) _ _ _ _ (by omega) | exact rec4.drew (by assumption)) hg (by simp; try omega)
    have B2 : Below w.heap.size w w2 := bel_up hg (by go_grown <;> first | exact Below.refl _ _ | exact B1 | exact bel_al (Below.refl _ _) _ | exact bel_al (bel_al (Below.refl _ _) _) _)
    have hz20 : w.heap.size < w2.heap.size := by omega
    have hz21 : w.heap.size + 1 < w2.heap.size := by omega
    clear hg R10 c100 c101 c102 c103 f100 f101 f102 f103 R11 c110 c111 c112 c113 f110 f111 f112 f113
    obtain ⟨⟨c200, c201, c202, c203⟩, f200, f201, f202, f203⟩ := R20.cells
    obtain ⟨⟨c210, c211, c212, c213⟩, f210, f211, f212, f213⟩ := R21.cells

    go_wp2
    exact bodyPost_ret (v := .agg #[.int .i64 (0), .int .i64 (0), .int .i64 (0), .int .i64 (0)]) (by simp [results, Tryd.results19, go_sem, *]) rfl ⟨rfl, by go_grown <;> exact B2⟩

  · rw [if_neg h0]
    have h1 : (M == 0) = false := by simpa using h0
    unfold Px.val
    go_enter Tryd.func19, Tryd.ntmps19
    have R00 : rec4 ((w.alloc (.cells #[.int .i64 r, .int .i64 g, .int .i64 b, .int .i64 a] 23)).alloc (.cells #[.int .i64 0, .int .i64 0, .int .i64 0, .int .i64 0] 23)) w.heap.size r g b a := rec4.alloc (rec4.new w r g b a 23) _ (by simp)
    have R01 : rec4 ((w.alloc (.cells #[.int .i64 r, .int .i64 g, .int .i64 b, .int .i64 a] 23)).alloc (.cells #[.int .i64 0, .int .i64 0, .int .i64 0, .int .i64 0] 23)) (w.heap.size + 1) 0 0 0 0 := by
      have := rec4.new (w.alloc (.cells #[.int .i64 r, .int .i64 g, .int .i64 b, .int .i64 a] 23)) 0 0 0 0 23
      simpa using this
    go_wp2_with (go_at_call 13; fail)
    (with_reducible refine (C1.out _).mono ?_)
    rintro e1 w1 ⟨rfl, hg⟩
    have hs1 := hg.size
    (try simp at hs1)
    have R10 : rec4 w1 (w.heap.size) (r) (g) (b) (a) := rec4.below (by with_reducible first | assumption | exact rec4.own (by assumption) | exact rec4.other (by assumption) _ _ _ _ (by omega) | exact rec4.own (rec4.other (by assumption) _ _ _ _ (by omega)) | exact rec4.other (rec4.own (by assumption)) _ _ _ _ (by omega) | exact rec4.drew (by assumption)) hg (by simp; try omega)
    have R11 : rec4 w1 (w.heap.size + 1) (0) (0) (0) (0) := rec4.below (by with_reducible first | assumption | exact rec4.own (by assumption) | exact rec4.other (by assumption) _ _ _ _ (by omega) | exact rec4.own (rec4.other (by assumption) _ _ _ _ (by omega)) | exact rec4.other (rec4.own (by assumption)) _ _ _ _ (by omega) | exact rec4.drew (by assumption)) hg (by simp; try omega)
    have B1 : Below w.heap.size w w1 := bel_up hg (by go_grown <;> first | exact Below.refl _ _ | exact B0 | exact bel_al (Below.refl _ _) _ | exact bel_al (bel_al (Below.refl _ _) _) _)
    have hz10 : w.heap.size < w1.heap.size := by omega
    have hz11 : w.heap.size + 1 < w1.heap.size := by omega
    clear hg
    obtain ⟨⟨c100, c101, c102, c103⟩, f100, f101, f102, f103⟩ := R10.cells
    obtain ⟨⟨c110, c111, c112, c113⟩, f110, f111, f112, f113⟩ := R11.cells
    go_wp2_with (go_at_call 41; fail)
    (with_reducible refine (C2.out _).mono ?_)
    rintro e2 w2 ⟨rfl, hg⟩
    have hs2 := hg.size
    (try simp at hs2)
    have R20 : rec4 w2 (w.heap.size) (ur) (ug) (ub) (ua) := rec4.below (by with_reducible first | assumption | exact rec4.own (by assumption) | exact rec4.other (by assumption) _ _ _ _ (by omega) | exact rec4.own (rec4.other (by assumption) _ _ _ _ (by omega)) | exact rec4.other (rec4.own (by assumption)) _ _ _ _ (by omega) | exact rec4.drew (by assumption)) hg (by simp; try omega)
    have R21 : rec4 w2 (w.heap.size + 1) (0) (0) (0) (0) := rec4.below (by with_reducible first | assumption | exact rec4.own (by assumption) | exact rec4.other (by assumption) _ _ _ _ (by omega) | exact rec4.own (rec4.other (by assumption) _ _ _ _ (by omega)) | exact rec4.other (rec4.own (by assumption)) _ _ _ _ (by omega) | exact rec4.drew (by assumption)) hg (by simp; try omega)
    have B2 : Below w.heap.size w w2 := bel_up hg (by go_grown <;> first | exact Below.refl _ _ | exact B1 | exact bel_al (Below.refl _ _) _ | exact bel_al (bel_al (Below.refl _ _) _) _)
    have hz20 : w.heap.size < w2.heap.size := by omega
    have hz21 : w.heap.size + 1 < w2.heap.size := by omega
    clear hg R10 c100 c101 c102 c103 f100 f101 f102 f103 R11 c110 c111 c112 c113 f110 f111 f112 f113
    obtain ⟨⟨c200, c201, c202, c203⟩, f200, f201, f202, f203⟩ := R20.cells
    obtain ⟨⟨c210, c211, c212, c213⟩, f210, f211, f212, f213⟩ := R21.cells
    go_wp2
    exact bodyPost_ret (v := .agg #[.int .i64 (ur), .int .i64 (ug), .int .i64 (ub), .int .i64 (M)]) (by simp [results, Tryd.results19, go_sem, *]) rfl ⟨rfl, by go_grown <;> exact B2⟩

end Go.Proofs.YtmekcgbljpeglaaDoor
