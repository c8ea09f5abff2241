import Derived.Test.YtbkhfebopmeanaaProg
import Derived.WalkKit
import Derived.WalkLawsBesides
import Derived.Outline
import Derived.Lib.Walk
import Derived.Deep.QuietTactic
import Derived.BigQuiet
import Derived.RowKit3
import Derived.Deep.LoopGhost
import Derived.Great.Walk
import Derived.Great.BuildSlice
import Derived.Laws.Rows
import Derived.Laws.Tables
import Derived.Laws.CopyOwn
import Derived.Lib.Hide
import Derived.Handy
import Derived.Test.YtbkhfebopmeanaaV2
import Derived.Test.YtbkhfebopmeanaaV3
import Derived.Test.YtbkhfebopmeanaaV4
import Derived.Test.YtbkhfebopmeanaaPH
import Derived.Test.YtbkhfebopmeanaaPI
import Derived.Test.YtbkhfebopmeanaaV9
namespace Go.Proofs.Ytbkhfebopmeanaa
open Go.RowKit
set_option maxHeartbeats 400000
set_option linter.unusedVariables false
theorem p47_miss (x y a b : Int) (k : Nat) (W : World) (h : Rc.emp ⟨x, y, a, b⟩ = true) :
    Calls Try.prog 47 #[.agg #[.int .i64 x, .int .i64 y, .int .i64 a, .int .i64 b], .pointer (some ⟨k, 0, none⟩)] W fun e w' => e = .returned (.tuple #[]) ∧ Gr W w' := by
  have c1 := fun w => p15 x y a b w
  rw [h] at c1
  have C1 := Lib.hid c1
  clear c1 h
  go_enter Try.func47, Try.ntmps47
  go_wp2_with (first | (go_at_call 15; ((with_reducible refine (C1.out _).mono ?_)); rintro e w1 ⟨rfl, hg⟩))
  exact bodyPost_end (v := .tuple #[]) (by simp [results, Try.results47, go_sem]) rfl ⟨rfl, ((Gr.refl _).alloc _ _).trans hg⟩
theorem p47_hit (x y a b : Int) (k B n : Nat) (v : Value) (xs : List Value) (W : World) (h : Rc.emp ⟨x, y, a, b⟩ = false) (hk : k < B) (hB : B ≤ W.heap.size) (hn : n ≤ 1048576)
    (hv : W.cell? ⟨k, 0, none⟩ = some v) (hfz : W.frozen? ⟨k, 0, none⟩ = false) (hown : W.ownsRow B 23 4 v n xs) :
    Calls Try.prog 47 #[.agg #[.int .i64 x, .int .i64 y, .int .i64 a, .int .i64 b], .pointer (some ⟨k, 0, none⟩)] W fun e w' => e = .returned (.tuple #[]) ∧ ∃ v' w3, Below B W w3 ∧ w' = w3.setCell ⟨k, 0, none⟩ v' ∧
      w3.ownsRow B 23 4 v' (n + 1) (xs ++ [.int .i64 x, .int .i64 y, .int .i64 a, .int .i64 b]) := by
  have c1 := fun w => p15 x y a b w
  rw [h] at c1
  have C1 := Lib.hid c1
  clear c1 h
  obtain ⟨i0, hi, hz0', hz1, hz2⟩ := info_parts info23
  go_enter Try.func47, Try.ntmps47
  go_wp2_with (first | (go_at_call 15; ((with_reducible refine (C1.out _).mono ?_)); rintro e w1 ⟨rfl, hg⟩; have hs := hg.1.size; (try simp at hs); have hz : W.heap.size < w1.heap.size := (by omega); have hkk : k < w1.heap.size := (by omega); have G := (((Gr.refl W).alloc _ _).trans hg); have r0 : rec4 w1 W.heap.size x y a b := rec4.gr (rec4.new _ _ _ _ _ _) hg (by simp); obtain ⟨⟨c00, c01, c02, c03⟩, f00, f01, f02, f03⟩ := r0; have hv1 : w1.cell? ⟨k, 0, none⟩ = some v := (G.1.cell (p := ⟨k, 0, none⟩) (by dsimp only; omega)).trans hv; have hf1 : w1.frozen? ⟨k, 0, none⟩ = false := (G.1.frozen (p := ⟨k, 0, none⟩) (by dsimp only; omega)).trans hfz; have hown2 := ownsRow_below hown G.1) | (at_builtin; refine wpList_append_own _ rfl _ _ 36 rfl B 23 i0 (.agg #[.int .i64 0, .int .i64 0, .int .i64 0, .int .i64 0]) 4 32 Try.underlying36 hi hz0' hz1 hz2 rfl (by decide) _ _ _ rfl (hown2.alloc _) ⟨w1.heap.size, 0, none⟩ 1 1 [.int .i64 x, .int .i64 y, .int .i64 a, .int .i64 b] rfl rfl ?c1 ?c2 ?c3 ?c4 ?c5 ?_))
  case c1 =>
    intro j u hj
    match j, hj with
    | 0, hj => simp at hj; subst hj; simp [Addr.add]
    | 1, hj => simp at hj; subst hj; simp [Addr.add]
    | 2, hj => simp at hj; subst hj; simp [Addr.add]
    | 3, hj => simp at hj; subst hj; simp [Addr.add]
  case c2 => intro u hu; simp at hu; rcases hu with rfl | rfl | rfl | rfl <;> rfl
  case c3 => unfold maxLen; omega
  case c4 => omega
  case c5 => have := hg.1.size; simp; omega
  intro v' w3 hown' hgrow _
  have hb3 : Below B W w3 := Below.grown ((G.1.mono hB).alloc (by omega) _) hgrow (by simp; omega) fun j hj => (hown2.lt j hj).1
  have hv3 : w3.cell? ⟨k, 0, none⟩ = some v := (hb3.cell (p := ⟨k, 0, none⟩) hk).trans hv
  have hf3 : w3.frozen? ⟨k, 0, none⟩ = false := (hb3.frozen (p := ⟨k, 0, none⟩) hk).trans hfz
  clear hgrow hown hown2 hv1 hf1 c00 c01 c02 c03 f00 f01 f02 f03
  obtain ⟨hl, hcase⟩ := hown'
  rcases hcase with ⟨_, h0⟩ | ⟨g, cap, cur, rfl, hh⟩
  · omega
  go_wp2
  exact bodyPost_end (v := .tuple #[]) (by simp [results, Try.results47, go_sem]) rfl ⟨rfl, _, w3, hb3, rfl, hl, Or.inr ⟨g, cap, cur, rfl, hh⟩⟩

end Go.Proofs.Ytbkhfebopmeanaa
