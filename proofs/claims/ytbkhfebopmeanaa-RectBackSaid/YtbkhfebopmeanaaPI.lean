import Derived.Test.YtbkhfebopmeanaaProg
import Derived.WalkKit
import Derived.WalkLawsBesides
import Derived.Outline
import Derived.Lib.Walk
import Derived.Deep.QuietTactic
import Derived.BigQuiet
import Derived.RowKit3
import Derived.Deep.LoopGhost
import Derived.Great.Walk
import Derived.Great.BuildSlice
import Derived.Laws.Rows
import Derived.Laws.Tables
import Derived.Laws.CopyOwn
import Derived.Lib.Hide
import Derived.Handy
import Derived.Deep.RegionHeld3
import Derived.Test.YtbkhfebopmeanaaV2
import Derived.Test.YtbkhfebopmeanaaV3
import Derived.Test.YtbkhfebopmeanaaV4
import Derived.Test.YtbkhfebopmeanaaPF
namespace Go.Proofs.Ytbkhfebopmeanaa
open Go.RowKit
set_option maxHeartbeats 400000
set_option linter.unusedVariables false
theorem wit_sol (r s : Rc) : r.wit s = decide ((r.meet s).x = r.sol.x ∧ (r.meet s).y = r.sol.y ∧ (r.meet s).w = r.sol.w ∧ (r.meet s).h = r.sol.h) := by
  have br := sol_bd r
  have bs := sol_bd s
  rw [← meet_btw, Bool.eq_iff_iff, decide_eq_true_iff]
  unfold Rc.wit
  rw [has_sol, has_sol]
  cases h : r.emp
  · obtain ⟨e0, e1, e2, e3, e4⟩ := sol_x0 r h
    have hb : 1 ≤ r.w ∧ 1 ≤ r.h := by
      obtain ⟨x, y, a, b⟩ := r
      rcases rc_ways x y a b with ⟨h1, h2⟩ | ⟨h1, h2, h3⟩ | ⟨h1, h2, h3, h4⟩ | ⟨h1, h2, h3, h4⟩
      · rw [h] at h2; cases h2
      · rw [h] at h3; cases h3
      · rw [h] at h4; cases h4
      · have := vld_bd h1
        simp at h2 h3 ⊢
        omega
    rw [e0, e1, e2, e3, e4]
    rw [e0] at br
    generalize s.sol = t at *
    simp only [Bool.false_or, Bool.and_eq_true, decide_eq_true_iff]
    by_cases k : min (r.x + r.w) (t.x + t.w) ≤ max r.x t.x ∨ min (r.y + r.h) (t.y + t.h) ≤ max r.y t.y
    · rw [btw_none (by omega)]
      simp only
      omega
    · rw [btw_some (by omega) (by omega)]
      simp only
      omega
  · have := sol_emp r h
    rw [this] at br ⊢
    rw [btw_none (Or.inl (by simp; omega))]
    simp
theorem p21 (x y a b p q c d : Int) (w : World) : Calls Try.prog 21 #[.agg #[.int .i64 x, .int .i64 y, .int .i64 a, .int .i64 b], .agg #[.int .i64 p, .int .i64 q, .int .i64 c, .int .i64 d]] w fun e w' => e = .returned (.bool (Rc.wit ⟨x, y, a, b⟩ ⟨p, q, c, d⟩)) ∧ Gr w w' := by
  have c1 := fun w => p23 x y a b p q c d w
  have c2 := fun w => p40 x y a b w
  rw [wit_sol]
  generalize Rc.meet ⟨x, y, a, b⟩ ⟨p, q, c, d⟩ = M at *
  generalize Rc.sol ⟨x, y, a, b⟩ = R at *
  obtain ⟨m0, m1, m2, m3⟩ := M
  obtain ⟨n0, n1, n2, n3⟩ := R
  unfold Rc.val at c1 c2
  dsimp only at c1 c2 ⊢
  have C1 := Lib.hid c1
  have C2 := Lib.hid c2
  clear c1 c2
  have kp : ∀ W w1 : World, (fun W => Gr w W ∧ w.heap.size + 2 ≤ W.heap.size ∧ W.cell? ⟨w.heap.size, 0, none⟩ = some (.int .i64 x) ∧ W.cell? ⟨w.heap.size, 1, none⟩ = some (.int .i64 y) ∧ W.cell? ⟨w.heap.size, 2, none⟩ = some (.int .i64 a) ∧ W.cell? ⟨w.heap.size, 3, none⟩ = some (.int .i64 b) ∧ W.cell? ⟨w.heap.size + 1, 0, none⟩ = some (.int .i64 p) ∧ W.cell? ⟨w.heap.size + 1, 1, none⟩ = some (.int .i64 q) ∧ W.cell? ⟨w.heap.size + 1, 2, none⟩ = some (.int .i64 c) ∧ W.cell? ⟨w.heap.size + 1, 3, none⟩ = some (.int .i64 d)) W → Gr W w1 → (fun W => Gr w W ∧ w.heap.size + 2 ≤ W.heap.size ∧ W.cell? ⟨w.heap.size, 0, none⟩ = some (.int .i64 x) ∧ W.cell? ⟨w.heap.size, 1, none⟩ = some (.int .i64 y) ∧ W.cell? ⟨w.heap.size, 2, none⟩ = some (.int .i64 a) ∧ W.cell? ⟨w.heap.size, 3, none⟩ = some (.int .i64 b) ∧ W.cell? ⟨w.heap.size + 1, 0, none⟩ = some (.int .i64 p) ∧ W.cell? ⟨w.heap.size + 1, 1, none⟩ = some (.int .i64 q) ∧ W.cell? ⟨w.heap.size + 1, 2, none⟩ = some (.int .i64 c) ∧ W.cell? ⟨w.heap.size + 1, 3, none⟩ = some (.int .i64 d)) w1 := by
    intro W w1 hS hg
    have hs := hg.1.size
    obtain ⟨s0, s1, s2, s3, s4, s5, s6, s7, s8, s9⟩ := hS
    exact ⟨Gr.trans s0 hg, by omega, (hg.1.cell (by (try dsimp only); omega)).trans s2, (hg.1.cell (by (try dsimp only); omega)).trans s3, (hg.1.cell (by (try dsimp only); omega)).trans s4, (hg.1.cell (by (try dsimp only); omega)).trans s5, (hg.1.cell (by (try dsimp only); omega)).trans s6, (hg.1.cell (by (try dsimp only); omega)).trans s7, (hg.1.cell (by (try dsimp only); omega)).trans s8, (hg.1.cell (by (try dsimp only); omega)).trans s9⟩
  have KP := Lib.hid kp
  clear kp
  by_cases h0 : m0 = n0
  · by_cases h1 : m1 = n1
    · by_cases h2 : m2 = n2
      · by_cases h3 : m3 = n3
        · subst h0 h1 h2 h3
          go_enter Try.func21, Try.ntmps21
          go_wp2_with fail
          have hB0 : Gr w ((w.alloc (.cells #[.int .i64 x, .int .i64 y, .int .i64 a, .int .i64 b] 23)).alloc (.cells #[.int .i64 p, .int .i64 q, .int .i64 c, .int .i64 d] 23)).drew := by constructor <;> go_grown
          have hz : w.heap.size + 2 ≤ ((w.alloc (.cells #[.int .i64 x, .int .i64 y, .int .i64 a, .int .i64 b] 23)).alloc (.cells #[.int .i64 p, .int .i64 q, .int .i64 c, .int .i64 d] 23)).drew.heap.size := by simp
          have z00 : ((w.alloc (.cells #[.int .i64 x, .int .i64 y, .int .i64 a, .int .i64 b] 23)).alloc (.cells #[.int .i64 p, .int .i64 q, .int .i64 c, .int .i64 d] 23)).drew.cell? ⟨w.heap.size, 0, none⟩ = some (.int .i64 x) := by simp [go_sem]
          have z01 : ((w.alloc (.cells #[.int .i64 x, .int .i64 y, .int .i64 a, .int .i64 b] 23)).alloc (.cells #[.int .i64 p, .int .i64 q, .int .i64 c, .int .i64 d] 23)).drew.cell? ⟨w.heap.size, 1, none⟩ = some (.int .i64 y) := by simp [go_sem]
          have z02 : ((w.alloc (.cells #[.int .i64 x, .int .i64 y, .int .i64 a, .int .i64 b] 23)).alloc (.cells #[.int .i64 p, .int .i64 q, .int .i64 c, .int .i64 d] 23)).drew.cell? ⟨w.heap.size, 2, none⟩ = some (.int .i64 a) := by simp [go_sem]
          have z03 : ((w.alloc (.cells #[.int .i64 x, .int .i64 y, .int .i64 a, .int .i64 b] 23)).alloc (.cells #[.int .i64 p, .int .i64 q, .int .i64 c, .int .i64 d] 23)).drew.cell? ⟨w.heap.size, 3, none⟩ = some (.int .i64 b) := by simp [go_sem]
          have z10 : ((w.alloc (.cells #[.int .i64 x, .int .i64 y, .int .i64 a, .int .i64 b] 23)).alloc (.cells #[.int .i64 p, .int .i64 q, .int .i64 c, .int .i64 d] 23)).drew.cell? ⟨w.heap.size + 1, 0, none⟩ = some (.int .i64 p) := by simp [go_sem]
          have z11 : ((w.alloc (.cells #[.int .i64 x, .int .i64 y, .int .i64 a, .int .i64 b] 23)).alloc (.cells #[.int .i64 p, .int .i64 q, .int .i64 c, .int .i64 d] 23)).drew.cell? ⟨w.heap.size + 1, 1, none⟩ = some (.int .i64 q) := by simp [go_sem]
          have z12 : ((w.alloc (.cells #[.int .i64 x, .int .i64 y, .int .i64 a, .int .i64 b] 23)).alloc (.cells #[.int .i64 p, .int .i64 q, .int .i64 c, .int .i64 d] 23)).drew.cell? ⟨w.heap.size + 1, 2, none⟩ = some (.int .i64 c) := by simp [go_sem]
          have z13 : ((w.alloc (.cells #[.int .i64 x, .int .i64 y, .int .i64 a, .int .i64 b] 23)).alloc (.cells #[.int .i64 p, .int .i64 q, .int .i64 c, .int .i64 d] 23)).drew.cell? ⟨w.heap.size + 1, 3, none⟩ = some (.int .i64 d) := by simp [go_sem]
          go_region_held3 (fun W => Gr w W ∧ w.heap.size + 2 ≤ W.heap.size ∧ W.cell? ⟨w.heap.size, 0, none⟩ = some (.int .i64 x) ∧ W.cell? ⟨w.heap.size, 1, none⟩ = some (.int .i64 y) ∧ W.cell? ⟨w.heap.size, 2, none⟩ = some (.int .i64 a) ∧ W.cell? ⟨w.heap.size, 3, none⟩ = some (.int .i64 b) ∧ W.cell? ⟨w.heap.size + 1, 0, none⟩ = some (.int .i64 p) ∧ W.cell? ⟨w.heap.size + 1, 1, none⟩ = some (.int .i64 q) ∧ W.cell? ⟨w.heap.size + 1, 2, none⟩ = some (.int .i64 c) ∧ W.cell? ⟨w.heap.size + 1, 3, none⟩ = some (.int .i64 d))
            (first | exact ⟨hB0, hz, z00, z01, z02, z03, z10, z11, z12, z13⟩ | assumption | exact KP.out _ _ (by assumption) hg)
            (first | (go_at_call 23; ((with_reducible refine (C1.out _).mono ?_)); rintro e w1 ⟨rfl, hg⟩) | (go_at_call 40; ((with_reducible refine (C2.out _).mono ?_)); rintro e w1 ⟨rfl, hg⟩))
          go_wp2
          go_ret
          exact ⟨ret_bool (by simp [*]), by first | assumption | exact And.left (by assumption)⟩
        · subst h0 h1 h2
          go_enter Try.func21, Try.ntmps21
          go_wp2_with fail
          have hB0 : Gr w ((w.alloc (.cells #[.int .i64 x, .int .i64 y, .int .i64 a, .int .i64 b] 23)).alloc (.cells #[.int .i64 p, .int .i64 q, .int .i64 c, .int .i64 d] 23)).drew := by constructor <;> go_grown
          have hz : w.heap.size + 2 ≤ ((w.alloc (.cells #[.int .i64 x, .int .i64 y, .int .i64 a, .int .i64 b] 23)).alloc (.cells #[.int .i64 p, .int .i64 q, .int .i64 c, .int .i64 d] 23)).drew.heap.size := by simp
          have z00 : ((w.alloc (.cells #[.int .i64 x, .int .i64 y, .int .i64 a, .int .i64 b] 23)).alloc (.cells #[.int .i64 p, .int .i64 q, .int .i64 c, .int .i64 d] 23)).drew.cell? ⟨w.heap.size, 0, none⟩ = some (.int .i64 x) := by simp [go_sem]
          have z01 : ((w.alloc (.cells #[.int .i64 x, .int .i64 y, .int .i64 a, .int .i64 b] 23)).alloc (.cells #[.int .i64 p, .int .i64 q, .int .i64 c, .int .i64 d] 23)).drew.cell? ⟨w.heap.size, 1, none⟩ = some (.int .i64 y) := by simp [go_sem]
          have z02 : ((w.alloc (.cells #[.int .i64 x, .int .i64 y, .int .i64 a, .int .i64 b] 23)).alloc (.cells #[.int .i64 p, .int .i64 q, .int .i64 c, .int .i64 d] 23)).drew.cell? ⟨w.heap.size, 2, none⟩ = some (.int .i64 a) := by simp [go_sem]
          have z03 : ((w.alloc (.cells #[.int .i64 x, .int .i64 y, .int .i64 a, .int .i64 b] 23)).alloc (.cells #[.int .i64 p, .int .i64 q, .int .i64 c, .int .i64 d] 23)).drew.cell? ⟨w.heap.size, 3, none⟩ = some (.int .i64 b) := by simp [go_sem]
          have z10 : ((w.alloc (.cells #[.int .i64 x, .int .i64 y, .int .i64 a, .int .i64 b] 23)).alloc (.cells #[.int .i64 p, .int .i64 q, .int .i64 c, .int .i64 d] 23)).drew.cell? ⟨w.heap.size + 1, 0, none⟩ = some (.int .i64 p) := by simp [go_sem]
          have z11 : ((w.alloc (.cells #[.int .i64 x, .int .i64 y, .int .i64 a, .int .i64 b] 23)).alloc (.cells #[.int .i64 p, .int .i64 q, .int .i64 c, .int .i64 d] 23)).drew.cell? ⟨w.heap.size + 1, 1, none⟩ = some (.int .i64 q) := by simp [go_sem]
          have z12 : ((w.alloc (.cells #[.int .i64 x, .int .i64 y, .int .i64 a, .int .i64 b] 23)).alloc (.cells #[.int .i64 p, .int .i64 q, .int .i64 c, .int .i64 d] 23)).drew.cell? ⟨w.heap.size + 1, 2, none⟩ = some (.int .i64 c) := by simp [go_sem]
          have z13 : ((w.alloc (.cells #[.int .i64 x, .int .i64 y, .int .i64 a, .int .i64 b] 23)).alloc (.cells #[.int .i64 p, .int .i64 q, .int .i64 c, .int .i64 d] 23)).drew.cell? ⟨w.heap.size + 1, 3, none⟩ = some (.int .i64 d) := by simp [go_sem]
          go_region_held3 (fun W => Gr w W ∧ w.heap.size + 2 ≤ W.heap.size ∧ W.cell? ⟨w.heap.size, 0, none⟩ = some (.int .i64 x) ∧ W.cell? ⟨w.heap.size, 1, none⟩ = some (.int .i64 y) ∧ W.cell? ⟨w.heap.size, 2, none⟩ = some (.int .i64 a) ∧ W.cell? ⟨w.heap.size, 3, none⟩ = some (.int .i64 b) ∧ W.cell? ⟨w.heap.size + 1, 0, none⟩ = some (.int .i64 p) ∧ W.cell? ⟨w.heap.size + 1, 1, none⟩ = some (.int .i64 q) ∧ W.cell? ⟨w.heap.size + 1, 2, none⟩ = some (.int .i64 c) ∧ W.cell? ⟨w.heap.size + 1, 3, none⟩ = some (.int .i64 d))
            (first | exact ⟨hB0, hz, z00, z01, z02, z03, z10, z11, z12, z13⟩ | assumption | exact KP.out _ _ (by assumption) hg)
            (first | (go_at_call 23; ((with_reducible refine (C1.out _).mono ?_)); rintro e w1 ⟨rfl, hg⟩) | (go_at_call 40; ((with_reducible refine (C2.out _).mono ?_)); rintro e w1 ⟨rfl, hg⟩))
          go_wp2
          go_ret
          exact ⟨ret_bool (by simp [*]), by first | assumption | exact And.left (by assumption)⟩
      · subst h0 h1
        go_enter Try.func21, Try.ntmps21
        go_wp2_with fail
        have hB0 : Gr w ((w.alloc (.cells #[.int .i64 x, .int .i64 y, .int .i64 a, .int .i64 b] 23)).alloc (.cells #[.int .i64 p, .int .i64 q, .int .i64 c, .int .i64 d] 23)).drew := by constructor <;> go_grown
        have hz : w.heap.size + 2 ≤ ((w.alloc (.cells #[.int .i64 x, .int .i64 y, .int .i64 a, .int .i64 b] 23)).alloc (.cells #[.int .i64 p, .int .i64 q, .int .i64 c, .int .i64 d] 23)).drew.heap.size := by simp
        have z00 : ((w.alloc (.cells #[.int .i64 x, .int .i64 y, .int .i64 a, .int .i64 b] 23)).alloc (.cells #[.int .i64 p, .int .i64 q, .int .i64 c, .int .i64 d] 23)).drew.cell? ⟨w.heap.size, 0, none⟩ = some (.int .i64 x) := by simp [go_sem]
        have z01 : ((w.alloc (.cells #[.int .i64 x, .int .i64 y, .int .i64 a, .int .i64 b] 23)).alloc (.cells #[.int .i64 p, .int .i64 q, .int .i64 c, .int .i64 d] 23)).drew.cell? ⟨w.heap.size, 1, none⟩ = some (.int .i64 y) := by simp [go_sem]
        have z02 : ((w.alloc (.cells #[.int .i64 x, .int .i64 y, .int .i64 a, .int .i64 b] 23)).alloc (.cells #[.int .i64 p, .int .i64 q, .int .i64 c, .int .i64 d] 23)).drew.cell? ⟨w.heap.size, 2, none⟩ = some (.int .i64 a) := by simp [go_sem]
        have z03 : ((w.alloc (.cells #[.int .i64 x, .int .i64 y, .int .i64 a, .int .i64 b] 23)).alloc (.cells #[.int .i64 p, .int .i64 q, .int .i64 c, .int .i64 d] 23)).drew.cell? ⟨w.heap.size, 3, none⟩ = some (.int .i64 b) := by simp [go_sem]
        have z10 : ((w.alloc (.cells #[.int .i64 x, .int .i64 y, .int .i64 a, .int .i64 b] 23)).alloc (.cells #[.int .i64 p, .int .i64 q, .int .i64 c, .int .i64 d] 23)).drew.cell? ⟨w.heap.size + 1, 0, none⟩ = some (.int .i64 p) := by simp [go_sem]
        have z11 : ((w.alloc (.cells #[.int .i64 x, .int .i64 y, .int .i64 a, .int .i64 b] 23)).alloc (.cells #[.int .i64 p, .int .i64 q, .int .i64 c, .int .i64 d] 23)).drew.cell? ⟨w.heap.size + 1, 1, none⟩ = some (.int .i64 q) := by simp [go_sem]
        have z12 : ((w.alloc (.cells #[.int .i64 x, .int .i64 y, .int .i64 a, .int .i64 b] 23)).alloc (.cells #[.int .i64 p, .int .i64 q, .int .i64 c, .int .i64 d] 23)).drew.cell? ⟨w.heap.size + 1, 2, none⟩ = some (.int .i64 c) := by simp [go_sem]
        have z13 : ((w.alloc (.cells #[.int .i64 x, .int .i64 y, .int .i64 a, .int .i64 b] 23)).alloc (.cells #[.int .i64 p, .int .i64 q, .int .i64 c, .int .i64 d] 23)).drew.cell? ⟨w.heap.size + 1, 3, none⟩ = some (.int .i64 d) := by simp [go_sem]
        go_region_held3 (fun W => Gr w W ∧ w.heap.size + 2 ≤ W.heap.size ∧ W.cell? ⟨w.heap.size, 0, none⟩ = some (.int .i64 x) ∧ W.cell? ⟨w.heap.size, 1, none⟩ = some (.int .i64 y) ∧ W.cell? ⟨w.heap.size, 2, none⟩ = some (.int .i64 a) ∧ W.cell? ⟨w.heap.size, 3, none⟩ = some (.int .i64 b) ∧ W.cell? ⟨w.heap.size + 1, 0, none⟩ = some (.int .i64 p) ∧ W.cell? ⟨w.heap.size + 1, 1, none⟩ = some (.int .i64 q) ∧ W.cell? ⟨w.heap.size + 1, 2, none⟩ = some (.int .i64 c) ∧ W.cell? ⟨w.heap.size + 1, 3, none⟩ = some (.int .i64 d))
          (first | exact ⟨hB0, hz, z00, z01, z02, z03, z10, z11, z12, z13⟩ | assumption | exact KP.out _ _ (by assumption) hg)
          (first | (go_at_call 23; ((with_reducible refine (C1.out _).mono ?_)); rintro e w1 ⟨rfl, hg⟩) | (go_at_call 40; ((with_reducible refine (C2.out _).mono ?_)); rintro e w1 ⟨rfl, hg⟩))
        go_wp2
        go_ret
        exact ⟨ret_bool (by simp [*]), by first | assumption | exact And.left (by assumption)⟩
    · subst h0
      go_enter Try.func21, Try.ntmps21
      go_wp2_with fail
      have hB0 : Gr w ((w.alloc (.cells #[.int .i64 x, .int .i64 y, .int .i64 a, .int .i64 b] 23)).alloc (.cells #[.int .i64 p, .int .i64 q, .int .i64 c, .int .i64 d] 23)).drew := by constructor <;> go_grown
      have hz : w.heap.size + 2 ≤ ((w.alloc (.cells #[.int .i64 x, .int .i64 y, .int .i64 a, .int .i64 b] 23)).alloc (.cells #[.int .i64 p, .int .i64 q, .int .i64 c, .int .i64 d] 23)).drew.heap.size := by simp
      have z00 : ((w.alloc (.cells #[.int .i64 x, .int .i64 y, .int .i64 a, .int .i64 b] 23)).alloc (.cells #[.int .i64 p, .int .i64 q, .int .i64 c, .int .i64 d] 23)).drew.cell? ⟨w.heap.size, 0, none⟩ = some (.int .i64 x) := by simp [go_sem]
      have z01 : ((w.alloc (.cells #[.int .i64 x, .int .i64 y, .int .i64 a, .int .i64 b] 23)).alloc (.cells #[.int .i64 p, .int .i64 q, .int .i64 c, .int .i64 d] 23)).drew.cell? ⟨w.heap.size, 1, none⟩ = some (.int .i64 y) := by simp [go_sem]
      have z02 : ((w.alloc (.cells #[.int .i64 x, .int .i64 y, .int .i64 a, .int .i64 b] 23)).alloc (.cells #[.int .i64 p, .int .i64 q, .int .i64 c, .int .i64 d] 23)).drew.cell? ⟨w.heap.size, 2, none⟩ = some (.int .i64 a) := by simp [go_sem]
      have z03 : ((w.alloc (.cells #[.int .i64 x, .int .i64 y, .int .i64 a, .int .i64 b] 23)).alloc (.cells #[.int .i64 p, .int .i64 q, .int .i64 c, .int .i64 d] 23)).drew.cell? ⟨w.heap.size, 3, none⟩ = some (.int .i64 b) := by simp [go_sem]
      have z10 : ((w.alloc (.cells #[.int .i64 x, .int .i64 y, .int .i64 a, .int .i64 b] 23)).alloc (.cells #[.int .i64 p, .int .i64 q, .int .i64 c, .int .i64 d] 23)).drew.cell? ⟨w.heap.size + 1, 0, none⟩ = some (.int .i64 p) := by simp [go_sem]
      have z11 : ((w.alloc (.cells #[.int .i64 x, .int .i64 y, .int .i64 a, .int .i64 b] 23)).alloc (.cells #[.int .i64 p, .int .i64 q, .int .i64 c, .int .i64 d] 23)).drew.cell? ⟨w.heap.size + 1, 1, none⟩ = some (.int .i64 q) := by simp [go_sem]
      have z12 : ((w.alloc (.cells #[.int .i64 x, .int .i64 y, .int .i64 a, .int .i64 b] 23)).alloc (.cells #[.int .i64 p, .int .i64 q, .int .i64 c, .int .i64 d] 23)).drew.cell? ⟨w.heap.size + 1, 2, none⟩ = some (.int .i64 c) := by simp [go_sem]
      have z13 : ((w.alloc (.cells #[.int .i64 x, .int .i64 y, .int .i64 a, .int .i64 b] 23)).alloc (.cells #[.int .i64 p, .int .i64 q, .int .i64 c, .int .i64 d] 23)).drew.cell? ⟨w.heap.size + 1, 3, none⟩ = some (.int .i64 d) := by simp [go_sem]
      go_region_held3 (fun W => Gr w W ∧ w.heap.size + 2 ≤ W.heap.size ∧ W.cell? ⟨w.heap.size, 0, none⟩ = some (.int .i64 x) ∧ W.cell? ⟨w.heap.size, 1, none⟩ = some (.int .i64 y) ∧ W.cell? ⟨w.heap.size, 2, none⟩ = some (.int .i64 a) ∧ W.cell? ⟨w.heap.size, 3, none⟩ = some (.int .i64 b) ∧ W.cell? ⟨w.heap.size + 1, 0, none⟩ = some (.int .i64 p) ∧ W.cell? ⟨w.heap.size + 1, 1, none⟩ = some (.int .i64 q) ∧ W.cell? ⟨w.heap.size + 1, 2, none⟩ = some (.int .i64 c) ∧ W.cell? ⟨w.heap.size + 1, 3, none⟩ = some (.int .i64 d))
        (first | exact ⟨hB0, hz, z00, z01, z02, z03, z10, z11, z12, z13⟩ | assumption | exact KP.out _ _ (by assumption) hg)
        (first | (go_at_call 23; ((with_reducible refine (C1.out _).mono ?_)); rintro e w1 ⟨rfl, hg⟩) | (go_at_call 40; ((with_reducible refine (C2.out _).mono ?_)); rintro e w1 ⟨rfl, hg⟩))
      go_wp2
      go_ret
      exact ⟨ret_bool (by simp [*]), by first | assumption | exact And.left (by assumption)⟩
  · go_enter Try.func21, Try.ntmps21
    go_wp2_with fail
    have hB0 : Gr w ((w.alloc (.cells #[.int .i64 x, .int .i64 y, .int .i64 a, .int .i64 b] 23)).alloc (.cells #[.int .i64 p, .int .i64 q, .int .i64 c, .int .i64 d] 23)).drew := by constructor <;> go_grown
    have hz : w.heap.size + 2 ≤ ((w.alloc (.cells #[.int .i64 x, .int .i64 y, .int .i64 a, .int .i64 b] 23)).alloc (.cells #[.int .i64 p, .int .i64 q, .int .i64 c, .int .i64 d] 23)).drew.heap.size := by simp
    have z00 : ((w.alloc (.cells #[.int .i64 x, .int .i64 y, .int .i64 a, .int .i64 b] 23)).alloc (.cells #[.int .i64 p, .int .i64 q, .int .i64 c, .int .i64 d] 23)).drew.cell? ⟨w.heap.size, 0, none⟩ = some (.int .i64 x) := by simp [go_sem]
    have z01 : ((w.alloc (.cells #[.int .i64 x, .int .i64 y, .int .i64 a, .int .i64 b] 23)).alloc (.cells #[.int .i64 p, .int .i64 q, .int .i64 c, .int .i64 d] 23)).drew.cell? ⟨w.heap.size, 1, none⟩ = some (.int .i64 y) := by simp [go_sem]
    have z02 : ((w.alloc (.cells #[.int .i64 x, .int .i64 y, .int .i64 a, .int .i64 b] 23)).alloc (.cells #[.int .i64 p, .int .i64 q, .int .i64 c, .int .i64 d] 23)).drew.cell? ⟨w.heap.size, 2, none⟩ = some (.int .i64 a) := by simp [go_sem]
    have z03 : ((w.alloc (.cells #[.int .i64 x, .int .i64 y, .int .i64 a, .int .i64 b] 23)).alloc (.cells #[.int .i64 p, .int .i64 q, .int .i64 c, .int .i64 d] 23)).drew.cell? ⟨w.heap.size, 3, none⟩ = some (.int .i64 b) := by simp [go_sem]
    have z10 : ((w.alloc (.cells #[.int .i64 x, .int .i64 y, .int .i64 a, .int .i64 b] 23)).alloc (.cells #[.int .i64 p, .int .i64 q, .int .i64 c, .int .i64 d] 23)).drew.cell? ⟨w.heap.size + 1, 0, none⟩ = some (.int .i64 p) := by simp [go_sem]
    have z11 : ((w.alloc (.cells #[.int .i64 x, .int .i64 y, .int .i64 a, .int .i64 b] 23)).alloc (.cells #[.int .i64 p, .int .i64 q, .int .i64 c, .int .i64 d] 23)).drew.cell? ⟨w.heap.size + 1, 1, none⟩ = some (.int .i64 q) := by simp [go_sem]
    have z12 : ((w.alloc (.cells #[.int .i64 x, .int .i64 y, .int .i64 a, .int .i64 b] 23)).alloc (.cells #[.int .i64 p, .int .i64 q, .int .i64 c, .int .i64 d] 23)).drew.cell? ⟨w.heap.size + 1, 2, none⟩ = some (.int .i64 c) := by simp [go_sem]
    have z13 : ((w.alloc (.cells #[.int .i64 x, .int .i64 y, .int .i64 a, .int .i64 b] 23)).alloc (.cells #[.int .i64 p, .int .i64 q, .int .i64 c, .int .i64 d] 23)).drew.cell? ⟨w.heap.size + 1, 3, none⟩ = some (.int .i64 d) := by simp [go_sem]
    go_region_held3 (fun W => Gr w W ∧ w.heap.size + 2 ≤ W.heap.size ∧ W.cell? ⟨w.heap.size, 0, none⟩ = some (.int .i64 x) ∧ W.cell? ⟨w.heap.size, 1, none⟩ = some (.int .i64 y) ∧ W.cell? ⟨w.heap.size, 2, none⟩ = some (.int .i64 a) ∧ W.cell? ⟨w.heap.size, 3, none⟩ = some (.int .i64 b) ∧ W.cell? ⟨w.heap.size + 1, 0, none⟩ = some (.int .i64 p) ∧ W.cell? ⟨w.heap.size + 1, 1, none⟩ = some (.int .i64 q) ∧ W.cell? ⟨w.heap.size + 1, 2, none⟩ = some (.int .i64 c) ∧ W.cell? ⟨w.heap.size + 1, 3, none⟩ = some (.int .i64 d))
      (first | exact ⟨hB0, hz, z00, z01, z02, z03, z10, z11, z12, z13⟩ | assumption | exact KP.out _ _ (by assumption) hg)
      (first | (go_at_call 23; ((with_reducible refine (C1.out _).mono ?_)); rintro e w1 ⟨rfl, hg⟩) | (go_at_call 40; ((with_reducible refine (C2.out _).mono ?_)); rintro e w1 ⟨rfl, hg⟩))
    go_wp2
    go_ret
    exact ⟨ret_bool (by simp [*]), by first | assumption | exact And.left (by assumption)⟩

end Go.Proofs.Ytbkhfebopmeanaa
