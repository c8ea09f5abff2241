import Derived.Test.YtmekcgbljpeglaaDoorProg
import Derived.WalkKit
import Derived.WalkLawsBesides
import Derived.Outline
import Derived.Lib.Walk
import Derived.Deep.QuietTactic
import Derived.BigQuiet
import Derived.RowKit3
import Derived.Deep.LoopGhost
import Derived.Laws.Rows
import Derived.Laws.Tables
import Derived.Laws.CopyOwn
import Derived.Lib.Hide
import Derived.Handy
import Derived.Deep.Onto
import Derived.IntWalk
import Derived.Deep.RegionWith
import Derived.Test.YtmekcgbljpeglaaDoorA1
import Derived.Test.YtmekcgbljpeglaaDoorA2
import Derived.Test.YtmekcgbljpeglaaDoorQT
import Derived.Test.YtmekcgbljpeglaaDoorEQ
import Derived.Test.YtmekcgbljpeglaaDoorB1
import Derived.Test.YtmekcgbljpeglaaDoorB2
import Derived.Test.YtmekcgbljpeglaaDoorB3
import Derived.Test.YtmekcgbljpeglaaDoorS1
import Derived.Test.YtmekcgbljpeglaaDoorS5
namespace Go.Proofs.YtmekcgbljpeglaaDoor
open Go.RowKit
set_option maxHeartbeats 400000
set_option linter.unusedVariables false

def mxD4 (a b c d : Int) : Nat → Int
  | 0 => a
  | 1 => b
  | 2 => c
  | _ => d
/-- the greatest of the first k numbers, and 0. -/
def mxU (a b c d : Int) : Nat → Int
  | 0 => 0
  | k + 1 => max (mxU a b c d k) (mxD4 a b c d k)
theorem gapI_pos (x y : Int) : 0 ≤ gapI x y := by unfold gapI; omega
theorem mxU_end {a b c d : Int} (h : 0 ≤ a) : mxU a b c d 4 = max a (max b (max c d)) := by
  show max (max (max (max 0 a) b) c) d = _
  omega
set_option maxHeartbeats 4000000 in
theorem s27 (p q : Px) (w : World) : Calls Tryd.prog 27 #[p.val, q.val] w fun e w' => e = .returned (.int .i64 (p.dist q)) ∧ Below w.heap.size w w' := by
  obtain ⟨r, g, b, a⟩ := p
  obtain ⟨x, y, z, v⟩ := q
  have c1 := fun w => s14 ⟨r, g, b, a⟩ w
  unfold Px.val Px.lim at c1
  dsimp only at c1
  have C1 := Lib.hid c1
  clear c1
  have c1 := fun w => s14 ⟨x, y, z, v⟩ w
  unfold Px.val Px.lim at c1
  dsimp only at c1
  have C2 := Lib.hid c1
  clear c1
  unfold Px.dist
  dsimp only
  rw [← mxU_end (gapI_pos (un r) (un x))]
  have hr := un_lo r; have Hr := un_hi r
  have hg := un_lo g; have Hg := un_hi g
  have hb := un_lo b; have Hb := un_hi b
  have ha := un_lo a; have Ha := un_hi a
  have hx := un_lo x; have Hx := un_hi x
  have hy := un_lo y; have Hy := un_hi y
  have hz := un_lo z; have Hz := un_hi z
  have hv := un_lo v; have Hv := un_hi v
  generalize un r = ur at *
  generalize un g = ug at *
  generalize un b = ub at *
  generalize un a = ua at *
  generalize un x = ux at *
  generalize un y = uy at *
  generalize un z = uz at *
  generalize un v = uv at *
  have A0 := Lib.hid (fun w => s47 ur ux w hr Hr hx Hx)
  have A1 := Lib.hid (fun w => s47 ug uy w hg Hg hy Hy)
  have A2 := Lib.hid (fun w => s47 ub uz w hb Hb hz Hz)
  have A3 := Lib.hid (fun w => s47 ua uv w ha Ha hv Hv)
  clear hr Hr hg Hg hb Hb ha Ha hx Hx hy Hy hz Hz hv Hv
  generalize gapI ur ux = d0 at *
  generalize gapI ug uy = d1 at *
  generalize gapI ub uz = d2 at *
  generalize gapI ua uv = d3 at *
  unfold Px.val
  dsimp only
  go_enter Tryd.func27, Tryd.ntmps27
  go_wp2_with fail
  have r0 : rec4 ((w.alloc (.cells #[.int .i64 r, .int .i64 g, .int .i64 b, .int .i64 a] 23)).alloc (.cells #[.int .i64 x, .int .i64 y, .int .i64 z, .int .i64 v] 23)) w.heap.size r g b a := rec4.alloc (rec4.new w r g b a 23) _ (by simp)
  have r1 : rec4 ((w.alloc (.cells #[.int .i64 r, .int .i64 g, .int .i64 b, .int .i64 a] 23)).alloc (.cells #[.int .i64 x, .int .i64 y, .int .i64 z, .int .i64 v] 23)) (w.heap.size + 1) x y z v := by
    have := rec4.new (w.alloc (.cells #[.int .i64 r, .int .i64 g, .int .i64 b, .int .i64 a] 23)) x y z v 23
    simpa using this
  have G : Below w.heap.size w ((w.alloc (.cells #[.int .i64 r, .int .i64 g, .int .i64 b, .int .i64 a] 23)).alloc (.cells #[.int .i64 x, .int .i64 y, .int .i64 z, .int .i64 v] 23)) := bel_al (bel_al (Below.refl _ _) _) _
  have hs : w.heap.size + 1 < ((w.alloc (.cells #[.int .i64 r, .int .i64 g, .int .i64 b, .int .i64 a] 23)).alloc (.cells #[.int .i64 x, .int .i64 y, .int .i64 z, .int .i64 v] 23)).heap.size := by simp
  generalize ((w.alloc (.cells #[.int .i64 r, .int .i64 g, .int .i64 b, .int .i64 a] 23)).alloc (.cells #[.int .i64 x, .int .i64 y, .int .i64 z, .int .i64 v] 23)) = W0 at *
  obtain ⟨⟨c00, c01, c02, c03⟩, f00, f01, f02, f03⟩ := r0.cells
  obtain ⟨⟨c10, c11, c12, c13⟩, f10, f11, f12, f13⟩ := r1.cells
  have hz0 : w.heap.size < W0.heap.size := by omega
  apply wp_at (F := fun W => Below w.heap.size w W ∧ w.heap.size + 1 < W.heap.size ∧ rec4 W w.heap.size ur ug ub ua ∧ rec4 W (w.heap.size + 1) ux uy uz uv)
  case hreg =>
    go_region_with (first | (go_at_call 14; (with_reducible refine (C1.out _).mono ?_); rintro e w1 ⟨rfl, hg⟩; have hs := hg.size; (try simp at hs); have hz0 : w.heap.size < w1.heap.size := (by omega); have r0 : rec4 w1 (w.heap.size) (r) (g) (b) (a) := rec4.below (by with_reducible first | assumption | exact rec4.own (by assumption) | exact rec4.other (by assumption) _ _ _ _ (by omega) | exact rec4.own (rec4.other (by assumption) _ _ _ _ (by omega)) | exact rec4.other (rec4.own (by assumption)) _ _ _ _ (by omega) | exact rec4.drew (by assumption)) hg (by first | assumption | omega | (simp; done) | (simp; omega)); obtain ⟨⟨c00, c01, c02, c03⟩, f00, f01, f02, f03⟩ := r0.cells; have hz1 : w.heap.size + 1 < w1.heap.size := (by omega); have r1 : rec4 w1 (w.heap.size + 1) (x) (y) (z) (v) := rec4.below (by with_reducible first | assumption | exact rec4.own (by assumption) | exact rec4.other (by assumption) _ _ _ _ (by omega) | exact rec4.own (rec4.other (by assumption) _ _ _ _ (by omega)) | exact rec4.other (rec4.own (by assumption)) _ _ _ _ (by omega) | exact rec4.drew (by assumption)) hg (by first | assumption | omega | (simp; done) | (simp; omega)); obtain ⟨⟨c10, c11, c12, c13⟩, f10, f11, f12, f13⟩ := r1.cells; have G : Below w.heap.size w w1 := bel_up hg (by first | assumption | exact bel_dr (by assumption) 1)) | (go_at_call 14; (with_reducible refine (C2.out _).mono ?_); rintro e w1 ⟨rfl, hg⟩; have hs := hg.size; (try simp at hs); have hz0 : w.heap.size < w1.heap.size := (by omega); have r0 : rec4 w1 (w.heap.size) (r) (g) (b) (a) := rec4.below (by with_reducible first | assumption | exact rec4.own (by assumption) | exact rec4.other (by assumption) _ _ _ _ (by omega) | exact rec4.own (rec4.other (by assumption) _ _ _ _ (by omega)) | exact rec4.other (rec4.own (by assumption)) _ _ _ _ (by omega) | exact rec4.drew (by assumption)) hg (by first | assumption | omega | (simp; done) | (simp; omega)); obtain ⟨⟨c00, c01, c02, c03⟩, f00, f01, f02, f03⟩ := r0.cells; have hz1 : w.heap.size + 1 < w1.heap.size := (by omega); have r1 : rec4 w1 (w.heap.size + 1) (x) (y) (z) (v) := rec4.below (by with_reducible first | assumption | exact rec4.own (by assumption) | exact rec4.other (by assumption) _ _ _ _ (by omega) | exact rec4.own (rec4.other (by assumption) _ _ _ _ (by omega)) | exact rec4.other (rec4.own (by assumption)) _ _ _ _ (by omega) | exact rec4.drew (by assumption)) hg (by first | assumption | omega | (simp; done) | (simp; omega)); obtain ⟨⟨c10, c11, c12, c13⟩, f10, f11, f12, f13⟩ := r1.cells; have G : Below w.heap.size w w1 := bel_up hg (by first | assumption | exact bel_dr (by assumption) 1)))
    all_goals
      refine ⟨rfl, ?_, ?_, rec4.other (rec4.own r0) _ _ _ _ (by omega), rec4.own (rec4.other r1 _ _ _ _ (by omega))⟩
      · go_grown
      · simp
        omega
  case hrest =>
    clear G hs r0 r1 c00 c01 c02 c03 c10 c11 c12 c13 f00 f01 f02 f03 f10 f11 f12 f13
    intro W h
    obtain ⟨G, hs, r0, r1⟩ := h
    have hz0 : w.heap.size < W.heap.size := by omega
    obtain ⟨⟨c00, c01, c02, c03⟩, f0⟩ := r0.cells
    obtain ⟨⟨c10, c11, c12, c13⟩, f1⟩ := r1.cells
    clear f0 f1 r0 r1 C1 C2
    go_wp2_with fail
    refine wp_region_quiet_tail 20 (by kernel_rfl) (by kernel_rfl) ?_
    simp only [List.take_succ_cons, List.take_zero, List.drop_succ_cons, List.drop_zero]
    repeat (quiet_step ((first | (go_at_call 47; with_reducible exact Calls.quiet_of (A0.out _)) | (go_at_call 47; with_reducible exact Calls.quiet_of (A1.out _)) | (go_at_call 47; with_reducible exact Calls.quiet_of (A2.out _)) | (go_at_call 47; with_reducible exact Calls.quiet_of (A3.out _)))))
    refine wpQuiet_nil ?_
    intro _ hw'
    obtain ⟨nq2, hw''⟩ := hw'
    subst hw''
    replace G := bel_dr G nq2
    generalize W.drewN nq2 = W2 at *
    clear c00 c01 c02 c03 c10 c11 c12 c13 A0 A1 A2 A3
    have GL : Below w.heap.size w (W2.alloc (.cells #[.int .i64 d0, .int .i64 d1, .int .i64 d2, .int .i64 d3] 3)) := bel_al G _
    have hB : ∀ j, j < 4 → (W2.alloc (.cells #[.int .i64 d0, .int .i64 d1, .int .i64 d2, .int .i64 d3] 3)).cell? ⟨W2.heap.size, j, none⟩ = some (.int .i64 (mxD4 d0 d1 d2 d3 j)) := by
      intro j hj
      obtain rfl | rfl | rfl | rfl : j = 0 ∨ j = 1 ∨ j = 2 ∨ j = 3 := by omega
      all_goals simp [go_sem, mxD4]
    go_wp2
    generalize (W2.alloc (.cells #[.int .i64 d0, .int .i64 d1, .int .i64 d2, .int .i64 d3] 3)) = W3 at *
    go_loop [6, 35] (fun vm vi => ∃ (k : Nat), vm = .int .i64 (mxU d0 d1 d2 d3 k) ∧ vi = .int .i64 k ∧ k ≤ 4)
      (fun _ vi => 4 - (intOf vi).toNat)
    case atStart => exact ⟨0, rfl, rfl, by omega⟩
    case round =>
      obtain ⟨k, rfl, rfl, hk⟩ := hrel
      by_cases hk4 : k < 4
      · have hc := hB k hk4
        have hm : mxU d0 d1 d2 d3 (k + 1) = max (mxU d0 d1 d2 d3 k) (mxD4 d0 d1 d2 d3 k) := rfl
        have i1 : (k : Int) < 4 := by omega
        clear hB
        generalize mxD4 d0 d1 d2 d3 k = e at *
        by_cases hlt : mxU d0 d1 d2 d3 k < e
        · have hmm : mxU d0 d1 d2 d3 (k + 1) = e := by omega
          clear hm
          generalize mxU d0 d1 d2 d3 k = m at *
          go_wp2
          exact ⟨⟨k + 1, by rw [hmm], rfl, by omega⟩, by simp [intOf]; omega⟩
        · have hmm : mxU d0 d1 d2 d3 (k + 1) = mxU d0 d1 d2 d3 k := by omega
          have hltb : decide (mxU d0 d1 d2 d3 k < e) = false := decide_eq_false hlt
          clear hm hlt
          generalize mxU d0 d1 d2 d3 k = m at *
          go_wp2
          exact ⟨⟨k + 1, by rw [hmm], rfl, by omega⟩, by simp [intOf]; omega⟩
      · obtain rfl : k = 4 := by omega
        have i1 : decide (((4 : Nat) : Int) < 4) = false := rfl
        clear hB
        go_wp2
        go_ret
        exact ⟨rfl, GL⟩

end Go.Proofs.YtmekcgbljpeglaaDoor
