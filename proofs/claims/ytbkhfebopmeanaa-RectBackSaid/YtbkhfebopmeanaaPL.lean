import Derived.Test.YtbkhfebopmeanaaProg
import Derived.WalkKit
import Derived.WalkLawsBesides
import Derived.Outline
import Derived.Lib.Walk
import Derived.Deep.QuietTactic
import Derived.BigQuiet
import Derived.RowKit3
import Derived.Deep.LoopGhost
import Derived.Great.Walk
import Derived.Great.BuildSlice
import Derived.Laws.Rows
import Derived.Laws.Tables
import Derived.Laws.CopyOwn
import Derived.Lib.Hide
import Derived.Handy
import Derived.StillTactics
import Derived.Test.YtbkhfebopmeanaaV2
import Derived.Test.YtbkhfebopmeanaaV3
import Derived.Test.YtbkhfebopmeanaaV4
import Derived.Test.YtbkhfebopmeanaaPK
namespace Go.Proofs.Ytbkhfebopmeanaa
open Go.RowKit
set_option maxHeartbeats 400000
set_option linter.unusedVariables false
theorem p32 (x y a b p q c d : Int) (w : World) : Calls Try.prog 32 #[.agg #[.int .i64 x, .int .i64 y, .int .i64 a, .int .i64 b], .agg #[.int .i64 p, .int .i64 q, .int .i64 c, .int .i64 d]] w fun e w' => ∃ v, e = .returned v ∧ Below w.heap.size w w' ∧ w'.ownsRow w.heap.size 23 4 v (Rc.minus ⟨x, y, a, b⟩ ⟨p, q, c, d⟩).length (cellsR (Rc.minus ⟨x, y, a, b⟩ ⟨p, q, c, d⟩)) := by
  have c1 := fun w => p23 x y a b p q c d w
  cases h : (Rc.meet ⟨x, y, a, b⟩ ⟨p, q, c, d⟩).emp
  · have hE := minus_ne ⟨x, y, a, b⟩ ⟨p, q, c, d⟩ h
    have hS := meet_sub ⟨x, y, a, b⟩ ⟨p, q, c, d⟩ h
    obtain ⟨b1, b2, b3, b4, b5, b6, b7, b8, b9, b10⟩ := sol_bd ⟨x, y, a, b⟩
    rw [(sol_x0 _ hS.1).1] at b1 b2 b3 b4 b5 b6 b7 b8 b9 b10
    rw [hE]
    generalize Rc.meet ⟨x, y, a, b⟩ ⟨p, q, c, d⟩ = M at *
    obtain ⟨-, s1, s2, s3, s4, s5, s6⟩ := hS
    dsimp only at b1 b2 b3 b4 b5 b6 b7 b8 b9 b10 s1 s2 s3 s4 ⊢
    have c2 := fun w => p15 M.x M.y M.w M.h w
    rw [show Rc.emp ⟨M.x, M.y, M.w, M.h⟩ = false from h] at c2
    have c3 := fun (l t r b : Int) w => p42 l t r b w
    unfold Rc.val at c1 c3
    have C1 := Lib.hid c1
    have C2 := Lib.hid c2
    have C3 := Lib.hid c3
    have L0 : ([] : List Rc).length ≤ 1048576 := by simp
    have L1 : (add [] (btw x y (x + a) M.y)).length ≤ 1048576 := by have := add_len [] (btw x y (x + a) M.y) (n := 0) (by simp); omega
    have L2 : (add (add [] (btw x y (x + a) M.y)) (btw x M.y M.x (M.y + M.h))).length ≤ 1048576 := by
      have := add_len _ (btw x M.y M.x (M.y + M.h)) (add_len [] (btw x y (x + a) M.y) (n := 0) (by simp))
      omega
    have L3 : (add (add (add [] (btw x y (x + a) M.y)) (btw x M.y M.x (M.y + M.h))) (btw (M.x + M.w) M.y (x + a) (M.y + M.h))).length ≤ 1048576 := by
      have := add_len _ (btw (M.x + M.w) M.y (x + a) (M.y + M.h)) (add_len _ (btw x M.y M.x (M.y + M.h)) (add_len [] (btw x y (x + a) M.y) (n := 0) (by simp)))
      omega
    have k1 : IntKind.i64.wrap (x + a) = x + a := IntWalk.i64_in _ (by omega)
    have k2 : IntKind.i64.wrap (y + b) = y + b := IntWalk.i64_in _ (by omega)
    have k3 : IntKind.i64.wrap (M.x + M.w) = M.x + M.w := IntWalk.i64_in _ (by omega)
    have k4 : IntKind.i64.wrap (M.y + M.h) = M.y + M.h := IntWalk.i64_in _ (by omega)
    clear c1 c2 c3 hE h b1 b2 b3 b4 b5 b6 b7 b8 b9 b10 s1 s2 s3 s4 s5 s6
    go_enter Try.func32, Try.ntmps32
    go_wp2_with (first | (go_at_call 23; ((with_reducible refine ((C1.out _)).mono ?_)); rintro e w1 ⟨rfl, hg⟩; have hs := hg.1.size; (try simp at hs); have r0 : rec4 w1 w.heap.size x y a b := rec4.gr (by exact rec4.alloc (rec4.alloc (rec4.new _ _ _ _ _ _) _ (by simp)) _ (by simp; omega)) hg (by simp; omega); have hv : w1.cell? ⟨w.heap.size + 1 + 1, 0, none⟩ = some (.slice none 0 0) := (hg.1.cell (p := ⟨w.heap.size + 1 + 1, 0, none⟩) (by simp)).trans (by simp [go_sem]); have hfz : w1.frozen? ⟨w.heap.size + 1 + 1, 0, none⟩ = false := (hg.1.frozen (p := ⟨w.heap.size + 1 + 1, 0, none⟩) (by simp)).trans (by simp [go_sem]); have G : Gr w w1 := (by first | exact Gr.trans (by assumption) hg | (obtain ⟨G1, G2⟩ := G; refine Gr.trans ?_ hg; constructor <;> go_grown; done) | (refine Gr.trans ?_ hg; constructor <;> go_grown; done))) | (go_at_call 15; have hM : Mst w _ (w1.heap.size + 1) x y a b w1.heap.size M (.slice none 0 0) [] := Mst.start G r0 hv hfz (by omega); ((with_reducible refine ((C2.out _)).mono ?_)); rintro e w2 ⟨rfl, hg2⟩; replace hM := Mst.gr hM hg2; clear r0 hg; (try clear c00 c01 c02 c03 f00 f01 f02 f03 c30 c31 c32 c33 f30 f31 f32 f33 hv hfz); have hM' := hM; obtain ⟨-, hb1, hb2, hb3, hb4, ⟨⟨c00, c01, c02, c03⟩, f00, f01, f02, f03⟩, ⟨⟨c30, c31, c32, c33⟩, f30, f31, f32, f33⟩, hv, hfz, -⟩ := hM') | (go_at_call 42; ((with_reducible refine (C3.out _ _ _ _ _).mono ?_)); rintro e w2 ⟨rfl, hg⟩; have hM := Mst.gr (by assumption) hg; (try clear c00 c01 c02 c03 f00 f01 f02 f03 c30 c31 c32 c33 f30 f31 f32 f33 hv hfz); have hM' := hM; obtain ⟨-, hb1, hb2, hb3, hb4, ⟨⟨c00, c01, c02, c03⟩, f00, f01, f02, f03⟩, ⟨⟨c30, c31, c32, c33⟩, f30, f31, f32, f33⟩, hv, hfz, -⟩ := hM') | (go_at_call 47; first | ((with_reducible refine (p47_st (btw x y (x + a) M.y) (by assumption) L0).mono ?_)); rintro e w2 ⟨rfl, v, hM⟩; (try clear c00 c01 c02 c03 f00 f01 f02 f03 c30 c31 c32 c33 f30 f31 f32 f33 hv hfz); have hM' := hM; obtain ⟨-, hb1, hb2, hb3, hb4, ⟨⟨c00, c01, c02, c03⟩, f00, f01, f02, f03⟩, ⟨⟨c30, c31, c32, c33⟩, f30, f31, f32, f33⟩, hv, hfz, -⟩ := hM' | ((with_reducible refine (p47_st (btw x M.y M.x (M.y + M.h)) (by assumption) L1).mono ?_)); rintro e w2 ⟨rfl, v, hM⟩; (try clear c00 c01 c02 c03 f00 f01 f02 f03 c30 c31 c32 c33 f30 f31 f32 f33 hv hfz); have hM' := hM; obtain ⟨-, hb1, hb2, hb3, hb4, ⟨⟨c00, c01, c02, c03⟩, f00, f01, f02, f03⟩, ⟨⟨c30, c31, c32, c33⟩, f30, f31, f32, f33⟩, hv, hfz, -⟩ := hM' | ((with_reducible refine (p47_st (btw (M.x + M.w) M.y (x + a) (M.y + M.h)) (by assumption) L2).mono ?_)); rintro e w2 ⟨rfl, v, hM⟩; (try clear c00 c01 c02 c03 f00 f01 f02 f03 c30 c31 c32 c33 f30 f31 f32 f33 hv hfz); have hM' := hM; obtain ⟨-, hb1, hb2, hb3, hb4, ⟨⟨c00, c01, c02, c03⟩, f00, f01, f02, f03⟩, ⟨⟨c30, c31, c32, c33⟩, f30, f31, f32, f33⟩, hv, hfz, -⟩ := hM' | ((with_reducible refine (p47_st (btw x (M.y + M.h) (x + a) (y + b)) (by assumption) L3).mono ?_)); rintro e w2 ⟨rfl, v, hM⟩; (try clear c00 c01 c02 c03 f00 f01 f02 f03 c30 c31 c32 c33 f30 f31 f32 f33 hv hfz); have hM' := hM; obtain ⟨-, hb1, hb2, hb3, hb4, ⟨⟨c00, c01, c02, c03⟩, f00, f01, f02, f03⟩, ⟨⟨c30, c31, c32, c33⟩, f30, f31, f32, f33⟩, hv, hfz, -⟩ := hM'))
    refine wp_region_still_lit (by kernel_rfl) (by kernel_rfl) ?_
    repeat still_step
    refine wpStill_nil ?_
    replace hM := Mst.gr hM (Gr.drewN (Gr.refl _) 1)
    change Mst w (World.drew _) _ _ _ _ _ _ _ _ _ at hM
    go_wp2_with (first | (go_at_call 42; ((with_reducible refine (C3.out _ _ _ _ _).mono ?_)); rintro e w2 ⟨rfl, hg⟩; have hM := Mst.gr (by assumption) hg; (try clear c00 c01 c02 c03 f00 f01 f02 f03 c30 c31 c32 c33 f30 f31 f32 f33 hv hfz); have hM' := hM; obtain ⟨-, hb1, hb2, hb3, hb4, ⟨⟨c00, c01, c02, c03⟩, f00, f01, f02, f03⟩, ⟨⟨c30, c31, c32, c33⟩, f30, f31, f32, f33⟩, hv, hfz, -⟩ := hM') | (go_at_call 47; first | ((with_reducible refine (p47_st (btw x y (x + a) M.y) (by assumption) L0).mono ?_)); rintro e w2 ⟨rfl, v, hM⟩; (try clear c00 c01 c02 c03 f00 f01 f02 f03 c30 c31 c32 c33 f30 f31 f32 f33 hv hfz); have hM' := hM; obtain ⟨-, hb1, hb2, hb3, hb4, ⟨⟨c00, c01, c02, c03⟩, f00, f01, f02, f03⟩, ⟨⟨c30, c31, c32, c33⟩, f30, f31, f32, f33⟩, hv, hfz, -⟩ := hM' | ((with_reducible refine (p47_st (btw x M.y M.x (M.y + M.h)) (by assumption) L1).mono ?_)); rintro e w2 ⟨rfl, v, hM⟩; (try clear c00 c01 c02 c03 f00 f01 f02 f03 c30 c31 c32 c33 f30 f31 f32 f33 hv hfz); have hM' := hM; obtain ⟨-, hb1, hb2, hb3, hb4, ⟨⟨c00, c01, c02, c03⟩, f00, f01, f02, f03⟩, ⟨⟨c30, c31, c32, c33⟩, f30, f31, f32, f33⟩, hv, hfz, -⟩ := hM' | ((with_reducible refine (p47_st (btw (M.x + M.w) M.y (x + a) (M.y + M.h)) (by assumption) L2).mono ?_)); rintro e w2 ⟨rfl, v, hM⟩; (try clear c00 c01 c02 c03 f00 f01 f02 f03 c30 c31 c32 c33 f30 f31 f32 f33 hv hfz); have hM' := hM; obtain ⟨-, hb1, hb2, hb3, hb4, ⟨⟨c00, c01, c02, c03⟩, f00, f01, f02, f03⟩, ⟨⟨c30, c31, c32, c33⟩, f30, f31, f32, f33⟩, hv, hfz, -⟩ := hM' | ((with_reducible refine (p47_st (btw x (M.y + M.h) (x + a) (y + b)) (by assumption) L3).mono ?_)); rintro e w2 ⟨rfl, v, hM⟩; (try clear c00 c01 c02 c03 f00 f01 f02 f03 c30 c31 c32 c33 f30 f31 f32 f33 hv hfz); have hM' := hM; obtain ⟨-, hb1, hb2, hb3, hb4, ⟨⟨c00, c01, c02, c03⟩, f00, f01, f02, f03⟩, ⟨⟨c30, c31, c32, c33⟩, f30, f31, f32, f33⟩, hv, hfz, -⟩ := hM'))
    go_ret
    exact ⟨_, rfl, hM.1, World.ownsRow.mono hM.2.2.2.2.2.2.2.2.2 (by omega)⟩
  · have hE := minus_emp ⟨x, y, a, b⟩ ⟨p, q, c, d⟩ h
    rw [hE]
    generalize Rc.meet ⟨x, y, a, b⟩ ⟨p, q, c, d⟩ = M at *
    have c2 := fun w => p15 M.x M.y M.w M.h w
    rw [show Rc.emp ⟨M.x, M.y, M.w, M.h⟩ = true from h] at c2
    unfold Rc.val at c1
    have C1 := Lib.hid c1
    have C2 := Lib.hid c2
    clear c1 c2 hE h
    go_enter Try.func32, Try.ntmps32
    go_wp2_with (first | (go_at_call 23; ((with_reducible refine ((C1.out _)).mono ?_)); rintro e w1 ⟨rfl, hg⟩; have hs := hg.1.size; (try simp at hs); have r0 : rec4 w1 w.heap.size x y a b := rec4.gr (by exact rec4.alloc (rec4.alloc (rec4.new _ _ _ _ _ _) _ (by simp)) _ (by simp; omega)) hg (by simp; omega); have hv : w1.cell? ⟨w.heap.size + 1 + 1, 0, none⟩ = some (.slice none 0 0) := (hg.1.cell (p := ⟨w.heap.size + 1 + 1, 0, none⟩) (by simp)).trans (by simp [go_sem]); have hfz : w1.frozen? ⟨w.heap.size + 1 + 1, 0, none⟩ = false := (hg.1.frozen (p := ⟨w.heap.size + 1 + 1, 0, none⟩) (by simp)).trans (by simp [go_sem]); have G : Gr w w1 := (by first | exact Gr.trans (by assumption) hg | (obtain ⟨G1, G2⟩ := G; refine Gr.trans ?_ hg; constructor <;> go_grown; done) | (refine Gr.trans ?_ hg; constructor <;> go_grown; done))) | (go_at_call 15; have hM : Mst w _ (w1.heap.size + 1) x y a b w1.heap.size M (.slice none 0 0) [] := Mst.start G r0 hv hfz (by omega); ((with_reducible refine ((C2.out _)).mono ?_)); rintro e w2 ⟨rfl, hg2⟩; replace hM := Mst.gr hM hg2; clear r0 hg; (try clear c00 c01 c02 c03 f00 f01 f02 f03 c30 c31 c32 c33 f30 f31 f32 f33 hv hfz); have hM' := hM; obtain ⟨-, hb1, hb2, hb3, hb4, ⟨⟨c00, c01, c02, c03⟩, f00, f01, f02, f03⟩, ⟨⟨c30, c31, c32, c33⟩, f30, f31, f32, f33⟩, hv, hfz, -⟩ := hM') | (go_at_call 47; ((with_reducible refine (p47_st ⟨x, y, a, b⟩ (by assumption) (by first | assumption | omega | simp)).mono ?_)); rintro e w2 ⟨rfl, v, hM⟩; (try clear c00 c01 c02 c03 f00 f01 f02 f03 c30 c31 c32 c33 f30 f31 f32 f33 hv hfz); have hM' := hM; obtain ⟨-, hb1, hb2, hb3, hb4, ⟨⟨c00, c01, c02, c03⟩, f00, f01, f02, f03⟩, ⟨⟨c30, c31, c32, c33⟩, f30, f31, f32, f33⟩, hv, hfz, -⟩ := hM'))
    go_ret
    exact ⟨_, rfl, hM.1, World.ownsRow.mono hM.2.2.2.2.2.2.2.2.2 (by omega)⟩

end Go.Proofs.Ytbkhfebopmeanaa
