import Derived.Test.YthknkgblddoapaaProg
import Derived.WalkKit
import Derived.WalkLawsBesides
import Derived.Outline
import Derived.Lib.Walk
import Derived.Deep.QuietTactic
import Derived.BigQuiet
import Derived.RowKit3
import Derived.Deep.LoopGhost
import Derived.Great.Walk
import Derived.Great.BuildSlice
import Derived.Laws.Rows
import Derived.Laws.Tables
import Derived.Laws.CopyOwn
import Derived.Lib.Hide
import Derived.Handy
import Derived.StillTailTactics
import Derived.Deep.Onto
namespace Go.Proofs.Ythknkgblddoapaa

section
open Go.RowKit
set_option maxHeartbeats 400000
set_option linter.unusedVariables false
/-- a rectangle. -/
structure Rc where
  x : Int
  y : Int
  w : Int
  h : Int
/-- its value in Go. -/
def Rc.val (r : Rc) : Value := .agg #[.int .i64 r.x, .int .i64 r.y, .int .i64 r.w, .int .i64 r.h]
def Rc.vld (r : Rc) : Bool := decide (-1048576 ≤ r.x ∧ r.x ≤ 1048576 ∧ -1048576 ≤ r.y ∧ r.y ≤ 1048576 ∧ 0 ≤ r.w ∧ 0 ≤ r.h ∧ r.w ≤ 1048576 - r.x ∧ r.h ≤ 1048576 - r.y)
/-- a world with more blocks behind its own, of which nothing has turned. -/
def Gr (w w' : World) : Prop := Below w.heap.size w w' ∧ Grown w w'
theorem ret_bool {a b : Bool} (h : a = b) : Ending.returned (.bool a) = .returned (.bool b) := by rw [h]
theorem t14 (x y a b : Int) (w : World) (hx : -9223372036854775808 ≤ x) (hx' : x ≤ 9223372036854775807) (hy : -9223372036854775808 ≤ y) (hy' : y ≤ 9223372036854775807) :
    Calls Try.prog 40 #[.agg #[.int .i64 x, .int .i64 y, .int .i64 a, .int .i64 b]] w fun e w' => e = .returned (.bool (Rc.vld ⟨x, y, a, b⟩)) ∧ Gr w w' := by
  go_enter Try.func40, Try.ntmps40
  go_wp2
  all_goals
    go_ret
    refine ⟨ret_bool ?_, by constructor <;> go_grown⟩
    show _ = _
    unfold Rc.vld
    rw [Bool.eq_iff_iff]
    simp
    omega

def Rc.emp (r : Rc) : Bool := !r.vld || r.w == 0 || r.h == 0
/-- the first and the last coordinate on each axis. -/
def Rc.x0 (r : Rc) : Int := if r.emp then 0 else r.x
def Rc.x1 (r : Rc) : Int := if r.emp then -1 else r.x + r.w - 1
def Rc.y0 (r : Rc) : Int := if r.emp then 0 else r.y
def Rc.y1 (r : Rc) : Int := if r.emp then -1 else r.y + r.h - 1
theorem vld_bd {x y a b : Int} (h : Rc.vld ⟨x, y, a, b⟩ = true) : -1048576 ≤ x ∧ x ≤ 1048576 ∧ -1048576 ≤ y ∧ y ≤ 1048576 ∧ 0 ≤ a ∧ 0 ≤ b ∧ a ≤ 1048576 - x ∧ b ≤ 1048576 - y := of_decide_eq_true h
/-- the ways of a rectangle: not valid, without pixels, with pixels. -/
theorem rc_ways (x y a b : Int) :
    (Rc.vld ⟨x, y, a, b⟩ = false ∧ Rc.emp ⟨x, y, a, b⟩ = true) ∨ (Rc.vld ⟨x, y, a, b⟩ = true ∧ (a == 0) = true ∧ Rc.emp ⟨x, y, a, b⟩ = true) ∨
    (Rc.vld ⟨x, y, a, b⟩ = true ∧ (a == 0) = false ∧ (b == 0) = true ∧ Rc.emp ⟨x, y, a, b⟩ = true) ∨ (Rc.vld ⟨x, y, a, b⟩ = true ∧ (a == 0) = false ∧ (b == 0) = false ∧ Rc.emp ⟨x, y, a, b⟩ = false) := by
  unfold Rc.emp
  cases Rc.vld ⟨x, y, a, b⟩ <;> cases h1 : (a == 0) <;> cases h2 : (b == 0) <;> simp_all
theorem bcell {W w1 : World} (hb : Below W.heap.size W w1) : (∀ b o, b < W.heap.size → w1.cell? ⟨b, o, none⟩ = W.cell? ⟨b, o, none⟩) ∧ (∀ b o, b < W.heap.size → w1.frozen? ⟨b, o, none⟩ = W.frozen? ⟨b, o, none⟩) :=
  ⟨fun b o h => hb.cell (p := ⟨b, o, none⟩) h, fun b o h => hb.frozen (p := ⟨b, o, none⟩) h⟩
theorem Grown.trans {a b c : World} (h : Grown a b) (k : Grown b c) : Grown a c :=
  ⟨World.keptBut_trans h.1 k.1, fun x => (k.2.1 x).trans (h.2.1 x), Nat.le_trans h.2.2 k.2.2⟩
theorem Grown.drewN {W w' : World} (h : Grown W w') : ∀ n, Grown W (w'.drewN n)
  | 0 => h
  | n + 1 => Grown.drewN (w' := w'.drew) h.drew n
theorem Gr.refl (w : World) : Gr w w := ⟨Below.refl _ _, Grown.refl _⟩
theorem Gr.trans {a b c : World} (h : Gr a b) (k : Gr b c) : Gr a c := ⟨h.1.trans (k.1.mono h.1.size), Grown.trans h.2 k.2⟩
theorem Gr.drewN {a b : World} (h : Gr a b) (n : Nat) : Gr a (b.drewN n) := ⟨h.1.trans ⟨rfl, rfl, rfl, Nat.le_refl _, fun _ _ => rfl⟩, Grown.drewN h.2 n⟩
theorem Gr.alloc {a b : World} (h : Gr a b) (c : Array Value) (t : TypeId) : Gr a (b.alloc (.cells c t)) := ⟨h.1.alloc h.1.size _, h.2.alloc _ _⟩
end

section
open Go.RowKit
set_option maxHeartbeats 400000
set_option linter.unusedVariables false
theorem t40_0 (x y a b : Int) (w : World) (hx : -9223372036854775808 ≤ x) (hx' : x ≤ 9223372036854775807) (hy : -9223372036854775808 ≤ y) (hy' : y ≤ 9223372036854775807) :
    Calls Try.prog 78 #[.agg #[.int .i64 x, .int .i64 y, .int .i64 a, .int .i64 b], .int .i64 0] w fun e w' => e = .returned (.tuple #[.int .i64 (Rc.x0 ⟨x, y, a, b⟩), .int .i64 (Rc.x1 ⟨x, y, a, b⟩)]) ∧ Gr w w' := by
  rcases rc_ways x y a b with ⟨h1, h2⟩ | ⟨h1, h2, h3⟩ | ⟨h1, h2, h3, h4⟩ | ⟨h1, h2, h3, h4⟩
  · have E : Rc.x0 ⟨x, y, a, b⟩ = 0 ∧ Rc.x1 ⟨x, y, a, b⟩ = -1 := by unfold Rc.x0 Rc.x1; rw [h2]; exact ⟨rfl, rfl⟩
    rw [E.1, E.2]
    clear E
    go_enter Try.func78, Try.ntmps78
    go_wp2_with (go_at_call 40; refine (t14 _ _ _ _ _ (by assumption) (by assumption) (by assumption) (by assumption)).mono ?_; rintro e w1 ⟨rfl, hg⟩; obtain ⟨hc, hf⟩ := bcell hg.1)
    go_ret2
    exact ⟨rfl, ((Gr.refl _).alloc _ _).trans hg⟩
  · have E : Rc.x0 ⟨x, y, a, b⟩ = 0 ∧ Rc.x1 ⟨x, y, a, b⟩ = -1 := by unfold Rc.x0 Rc.x1; rw [h3]; exact ⟨rfl, rfl⟩
    rw [E.1, E.2]
    clear E
    go_enter Try.func78, Try.ntmps78
    go_wp2_with (go_at_call 40; refine (t14 _ _ _ _ _ (by assumption) (by assumption) (by assumption) (by assumption)).mono ?_; rintro e w1 ⟨rfl, hg⟩; obtain ⟨hc, hf⟩ := bcell hg.1)
    go_ret2
    exact ⟨rfl, ((Gr.refl _).alloc _ _).trans hg⟩
  · have E : Rc.x0 ⟨x, y, a, b⟩ = 0 ∧ Rc.x1 ⟨x, y, a, b⟩ = -1 := by unfold Rc.x0 Rc.x1; rw [h4]; exact ⟨rfl, rfl⟩
    rw [E.1, E.2]
    clear E
    go_enter Try.func78, Try.ntmps78
    go_wp2_with (go_at_call 40; refine (t14 _ _ _ _ _ (by assumption) (by assumption) (by assumption) (by assumption)).mono ?_; rintro e w1 ⟨rfl, hg⟩; obtain ⟨hc, hf⟩ := bcell hg.1)
    go_ret2
    exact ⟨rfl, ((Gr.refl _).alloc _ _).trans hg⟩
  · have E : Rc.x0 ⟨x, y, a, b⟩ = x ∧ Rc.x1 ⟨x, y, a, b⟩ = x + a - 1 := by unfold Rc.x0 Rc.x1; rw [h4]; exact ⟨rfl, rfl⟩
    rw [E.1, E.2]
    obtain ⟨b1, b2, b3, b4, b5, b6, b7, b8⟩ := vld_bd h1
    have k1 : IntKind.i64.wrap (x + a) = x + a := IntWalk.i64_in _ (by omega)
    have k2 : IntKind.i64.wrap (x + a - 1) = x + a - 1 := IntWalk.i64_in _ (by omega)
    clear E
    go_enter Try.func78, Try.ntmps78
    go_wp2_with (go_at_call 40; refine (t14 _ _ _ _ _ (by assumption) (by assumption) (by assumption) (by assumption)).mono ?_; rintro e w1 ⟨rfl, hg⟩; obtain ⟨hc, hf⟩ := bcell hg.1)
    go_quiet (fail)
    go_wp2
    go_ret2
    exact ⟨rfl, (((Gr.refl _).alloc _ _).trans hg).drewN _⟩
theorem t40_1 (x y a b : Int) (w : World) (hx : -9223372036854775808 ≤ x) (hx' : x ≤ 9223372036854775807) (hy : -9223372036854775808 ≤ y) (hy' : y ≤ 9223372036854775807) :
    Calls Try.prog 78 #[.agg #[.int .i64 x, .int .i64 y, .int .i64 a, .int .i64 b], .int .i64 1] w fun e w' => e = .returned (.tuple #[.int .i64 (Rc.y0 ⟨x, y, a, b⟩), .int .i64 (Rc.y1 ⟨x, y, a, b⟩)]) ∧ Gr w w' := by
  rcases rc_ways x y a b with ⟨h1, h2⟩ | ⟨h1, h2, h3⟩ | ⟨h1, h2, h3, h4⟩ | ⟨h1, h2, h3, h4⟩
  · have E : Rc.y0 ⟨x, y, a, b⟩ = 0 ∧ Rc.y1 ⟨x, y, a, b⟩ = -1 := by unfold Rc.y0 Rc.y1; rw [h2]; exact ⟨rfl, rfl⟩
    rw [E.1, E.2]
    clear E
    go_enter Try.func78, Try.ntmps78
    go_wp2_with (go_at_call 40; refine (t14 _ _ _ _ _ (by assumption) (by assumption) (by assumption) (by assumption)).mono ?_; rintro e w1 ⟨rfl, hg⟩; obtain ⟨hc, hf⟩ := bcell hg.1)
    go_ret2
    exact ⟨rfl, ((Gr.refl _).alloc _ _).trans hg⟩
  · have E : Rc.y0 ⟨x, y, a, b⟩ = 0 ∧ Rc.y1 ⟨x, y, a, b⟩ = -1 := by unfold Rc.y0 Rc.y1; rw [h3]; exact ⟨rfl, rfl⟩
    rw [E.1, E.2]
    clear E
    go_enter Try.func78, Try.ntmps78
    go_wp2_with (go_at_call 40; refine (t14 _ _ _ _ _ (by assumption) (by assumption) (by assumption) (by assumption)).mono ?_; rintro e w1 ⟨rfl, hg⟩; obtain ⟨hc, hf⟩ := bcell hg.1)
    go_ret2
    exact ⟨rfl, ((Gr.refl _).alloc _ _).trans hg⟩
  · have E : Rc.y0 ⟨x, y, a, b⟩ = 0 ∧ Rc.y1 ⟨x, y, a, b⟩ = -1 := by unfold Rc.y0 Rc.y1; rw [h4]; exact ⟨rfl, rfl⟩
    rw [E.1, E.2]
    clear E
    go_enter Try.func78, Try.ntmps78
    go_wp2_with (go_at_call 40; refine (t14 _ _ _ _ _ (by assumption) (by assumption) (by assumption) (by assumption)).mono ?_; rintro e w1 ⟨rfl, hg⟩; obtain ⟨hc, hf⟩ := bcell hg.1)
    go_ret2
    exact ⟨rfl, ((Gr.refl _).alloc _ _).trans hg⟩
  · have E : Rc.y0 ⟨x, y, a, b⟩ = y ∧ Rc.y1 ⟨x, y, a, b⟩ = y + b - 1 := by unfold Rc.y0 Rc.y1; rw [h4]; exact ⟨rfl, rfl⟩
    rw [E.1, E.2]
    obtain ⟨b1, b2, b3, b4, b5, b6, b7, b8⟩ := vld_bd h1
    have k1 : IntKind.i64.wrap (y + b) = y + b := IntWalk.i64_in _ (by omega)
    have k2 : IntKind.i64.wrap (y + b - 1) = y + b - 1 := IntWalk.i64_in _ (by omega)
    clear E
    go_enter Try.func78, Try.ntmps78
    go_wp2_with (go_at_call 40; refine (t14 _ _ _ _ _ (by assumption) (by assumption) (by assumption) (by assumption)).mono ?_; rintro e w1 ⟨rfl, hg⟩; obtain ⟨hc, hf⟩ := bcell hg.1)
    go_quiet (fail)
    go_wp2
    go_ret2
    exact ⟨rfl, (((Gr.refl _).alloc _ _).trans hg).drewN _⟩
end

section
open Go.RowKit
set_option maxHeartbeats 400000
set_option linter.unusedVariables false
/-- a rectangle by its first and last coordinates. -/
def rcOf (x0 x1 y0 y1 : Int) : Rc := if x1 < x0 ∨ y1 < y0 then ⟨0, 0, 0, 0⟩ else ⟨x0, y0, x1 - x0 + 1, y1 - y0 + 1⟩
theorem t42 (x0 x1 y0 y1 : Int) (w : World) (h1 : -8388608 ≤ x0 ∧ x0 ≤ 8388608) (h2 : -8388608 ≤ x1 ∧ x1 ≤ 8388608) (h3 : -8388608 ≤ y0 ∧ y0 ≤ 8388608) (h4 : -8388608 ≤ y1 ∧ y1 ≤ 8388608) :
    Calls Try.prog 87 #[.int .i64 x0, .int .i64 x1, .int .i64 y0, .int .i64 y1] w fun e w' => e = .returned (rcOf x0 x1 y0 y1).val ∧ Gr w w' := by
  obtain ⟨a1, a2⟩ := h1
  obtain ⟨a3, a4⟩ := h2
  obtain ⟨a5, a6⟩ := h3
  obtain ⟨a7, a8⟩ := h4
  by_cases hx : x1 < x0
  · have E : rcOf x0 x1 y0 y1 = ⟨0, 0, 0, 0⟩ := by unfold rcOf; rw [if_pos (Or.inl hx)]
    rw [E]
    clear E
    go_enter Try.func87, Try.ntmps87
    go_wp2
    exact bodyPost_ret (v := .agg #[.int .i64 0, .int .i64 0, .int .i64 0, .int .i64 0]) (by simp [results, Try.results87, go_sem]) rfl ⟨rfl, by constructor <;> go_grown⟩
  by_cases hy : y1 < y0
  · have E : rcOf x0 x1 y0 y1 = ⟨0, 0, 0, 0⟩ := by unfold rcOf; rw [if_pos (Or.inr hy)]
    rw [E]
    clear E
    go_enter Try.func87, Try.ntmps87
    go_wp2
    exact bodyPost_ret (v := .agg #[.int .i64 0, .int .i64 0, .int .i64 0, .int .i64 0]) (by simp [results, Try.results87, go_sem]) rfl ⟨rfl, by constructor <;> go_grown⟩
  have E : rcOf x0 x1 y0 y1 = ⟨x0, y0, x1 - x0 + 1, y1 - y0 + 1⟩ := by unfold rcOf; rw [if_neg (by omega)]
  rw [E]
  clear E
  go_enter Try.func87, Try.ntmps87
  go_wp2
  exact bodyPost_ret (v := .agg #[.int .i64 x0, .int .i64 y0, .int .i64 (x1 - x0 + 1), .int .i64 (y1 - y0 + 1)]) (by simp [results, Try.results87, go_sem]) rfl ⟨rfl, by constructor <;> go_grown⟩
theorem t16 (x y a b : Int) (w : World) (hx : -9223372036854775808 ≤ x) (hx' : x ≤ 9223372036854775807) (hy : -9223372036854775808 ≤ y) (hy' : y ≤ 9223372036854775807) :
    Calls Try.prog 41 #[.agg #[.int .i64 x, .int .i64 y, .int .i64 a, .int .i64 b]] w fun e w' => e = .returned (.bool (Rc.emp ⟨x, y, a, b⟩)) ∧ Gr w w' := by
  rcases rc_ways x y a b with ⟨h1, h2⟩ | ⟨h1, h2, h3⟩ | ⟨h1, h2, h3, h4⟩ | ⟨h1, h2, h3, h4⟩
  all_goals
    go_enter Try.func41, Try.ntmps41
    go_wp2_with (go_at_call 40; refine (t14 _ _ _ _ _ (by assumption) (by assumption) (by assumption) (by assumption)).mono ?_; rintro e w1 ⟨rfl, hg⟩; obtain ⟨hc, hf⟩ := bcell hg.1)
    go_ret
    exact ⟨ret_bool (by first | exact h2.symm | exact h3.symm | exact h4.symm), ((Gr.refl _).alloc _ _).trans hg⟩
/-- whether a point is a pixel. -/
def Rc.has (r : Rc) (p q : Int) : Bool := decide (r.x0 ≤ p ∧ p ≤ r.x1 ∧ r.y0 ≤ q ∧ q ≤ r.y1)
end

section
open Go.RowKit
set_option maxHeartbeats 400000
set_option linter.unusedVariables false
theorem x0_bd (r : Rc) : -1048576 ≤ r.x0 ∧ r.x0 ≤ 1048576 ∧ -1048577 ≤ r.x1 ∧ r.x1 ≤ 1048576 ∧ -1048576 ≤ r.y0 ∧ r.y0 ≤ 1048576 ∧ -1048577 ≤ r.y1 ∧ r.y1 ≤ 1048576 := by
  obtain ⟨x, y, a, b⟩ := r
  unfold Rc.x0 Rc.x1 Rc.y0 Rc.y1
  by_cases h : Rc.emp ⟨x, y, a, b⟩ = true
  · simp [h]
  · have hv : Rc.vld ⟨x, y, a, b⟩ = true := by unfold Rc.emp at h; simp at h; exact h.1.1
    have := vld_bd hv
    simp [h]; omega
/-- whether all pixels of the first one are pixels of the second one. -/
def Rc.wit (r s : Rc) : Bool := r.emp || (s.has r.x0 r.y0 && s.has r.x1 r.y1)
end

section
open Go.RowKit
set_option maxHeartbeats 400000
set_option linter.unusedVariables false
def Rc.area (r : Rc) : Int := if r.emp then 0 else r.w * r.h
theorem area_bd (x y a b : Int) (h : Rc.vld ⟨x, y, a, b⟩ = true) : 0 ≤ a * b ∧ a * b ≤ 4398046511104 := by
  have := vld_bd h
  have h1 : 0 ≤ a * b := Int.mul_nonneg (by omega) (by omega)
  have h2 : a * b ≤ 2097152 * 2097152 := Int.mul_le_mul (by omega) (by omega) (by omega) (by omega)
  omega
def Rc.zero : Rc := ⟨0, 0, 0, 0⟩
def Rc.meet (r s : Rc) : Rc := if r.emp || s.emp then Rc.zero else rcOf (max r.x0 s.x0) (min r.x1 s.x1) (max r.y0 s.y0) (min r.y1 s.y1)
end

section
open Go.RowKit
set_option maxHeartbeats 400000
set_option linter.unusedVariables false
/-- a number limited to three times the world's half. -/
def lim (n : Int) : Int := min (max n (-3145728)) 3145728
theorem t46 (n : Int) (w : World) : Calls Try.prog 79 #[.int .i64 n] w fun e w' => e = .returned (.int .i64 (lim n)) ∧ w = w' := by
  go_enter Try.func79, Try.ntmps79
  go_wp2
  go_ret
  exact ⟨by unfold lim; congr 2, rfl⟩
/-- a rectangle cut to the world. -/
def wrl (x0 x1 y0 y1 : Int) : Rc := rcOf (max x0 (-1048576)) (min x1 1048575) (max y0 (-1048576)) (min y1 1048575)
theorem t45 (x0 x1 y0 y1 : Int) (w : World) (h1 : -8388608 ≤ x0 ∧ x0 ≤ 8388608) (h2 : -8388608 ≤ x1 ∧ x1 ≤ 8388608) (h3 : -8388608 ≤ y0 ∧ y0 ≤ 8388608) (h4 : -8388608 ≤ y1 ∧ y1 ≤ 8388608) :
    Calls Try.prog 80 #[.int .i64 x0, .int .i64 x1, .int .i64 y0, .int .i64 y1] w fun e w' => e = .returned (Rc.val (wrl x0 x1 y0 y1)) ∧ Gr w w' := by
  have c42 := fun w => t42 (max x0 (-1048576)) (min x1 1048575) (max y0 (-1048576)) (min y1 1048575) w (by omega) (by omega) (by omega) (by omega)
  unfold wrl
  generalize rcOf (max x0 (-1048576)) (min x1 1048575) (max y0 (-1048576)) (min y1 1048575) = R at *
  unfold Rc.val at c42
  have C42 := Lib.hid c42
  clear c42
  unfold Rc.val
  go_enter Try.func80, Try.ntmps80
  go_wp2_with (first | (go_at_call 87; ((with_reducible refine (C42.out _).mono ?_)); rintro e w1 ⟨rfl, hg⟩; obtain ⟨hc, hf⟩ := bcell hg.1; have hz : w.heap.size < w1.heap.size := (by have := hg.1.size; (try simp at this); omega); have G : Gr w w1 := (by first | exact Gr.trans (by assumption) hg | exact Gr.trans (by constructor <;> go_grown) hg)))
  exact bodyPost_ret (v := .agg #[.int .i64 R.x, .int .i64 R.y, .int .i64 R.w, .int .i64 R.h]) (by simp [results, Try.results80, go_sem, *]) rfl ⟨rfl, by obtain ⟨G1, G2⟩ := G; constructor <;> go_grown⟩
/-- the bounding box. -/
def Rc.join (r s : Rc) : Rc := if r.emp then (if s.emp then Rc.zero else s) else if s.emp then r else rcOf (min r.x0 s.x0) (max r.x1 s.x1) (min r.y0 s.y0) (max r.y1 s.y1)
end

section
open Go.RowKit
set_option maxHeartbeats 400000
set_option linter.unusedVariables false
theorem Gr.of_drew {a b : World} (h : Gr a.drew b) : Gr a b := (Gr.drewN (Gr.refl a) 1).trans h
theorem lim_bd (n : Int) : -3145728 ≤ lim n ∧ lim n ≤ 3145728 := by unfold lim; omega
def Rc.grow (r : Rc) (n : Int) : Rc := if r.emp then Rc.zero else wrl (r.x0 - lim n) (r.x1 + lim n) (r.y0 - lim n) (r.y1 + lim n)
def Rc.move (r : Rc) (p q : Int) : Rc := if r.emp then Rc.zero else wrl (r.x0 + lim p) (r.x1 + lim p) (r.y0 + lim q) (r.y1 + lim q)
theorem t30 (x y a b n : Int) (w : World) (hx : -9223372036854775808 ≤ x) (hx' : x ≤ 9223372036854775807) (hy : -9223372036854775808 ≤ y) (hy' : y ≤ 9223372036854775807) :
    Calls Try.prog 59 #[.agg #[.int .i64 x, .int .i64 y, .int .i64 a, .int .i64 b], .int .i64 n] w fun e w' => e = .returned (Rc.val (Rc.grow ⟨x, y, a, b⟩ n)) ∧ Gr w w' := by
  obtain ⟨u1, u2, u3, u4, u5, u6, u7, u8⟩ := x0_bd ⟨x, y, a, b⟩
  cases h1 : Rc.emp ⟨x, y, a, b⟩
  · have E : Rc.grow ⟨x, y, a, b⟩ n = wrl ((Rc.x0 ⟨x, y, a, b⟩) - lim n) ((Rc.x1 ⟨x, y, a, b⟩) + lim n) ((Rc.y0 ⟨x, y, a, b⟩) - lim n) ((Rc.y1 ⟨x, y, a, b⟩) + lim n) := by unfold Rc.grow; rw [h1]; rfl
    rw [E]
    clear E
    obtain ⟨l1, l2⟩ := lim_bd n
    have c45 := fun w => t45 ((Rc.x0 ⟨x, y, a, b⟩) - lim n) ((Rc.x1 ⟨x, y, a, b⟩) + lim n) ((Rc.y0 ⟨x, y, a, b⟩) - lim n) ((Rc.y1 ⟨x, y, a, b⟩) + lim n) w (by omega) (by omega) (by omega) (by omega)
    generalize wrl ((Rc.x0 ⟨x, y, a, b⟩) - lim n) ((Rc.x1 ⟨x, y, a, b⟩) + lim n) ((Rc.y0 ⟨x, y, a, b⟩) - lim n) ((Rc.y1 ⟨x, y, a, b⟩) + lim n) = R at *
    unfold Rc.val at c45
    have C45 := Lib.hid c45
    have k1 : IntKind.i64.wrap ((Rc.x0 ⟨x, y, a, b⟩) - lim n) = (Rc.x0 ⟨x, y, a, b⟩) - lim n := IntWalk.i64_in _ (by omega)
    have k2 : IntKind.i64.wrap ((Rc.x1 ⟨x, y, a, b⟩) + lim n) = (Rc.x1 ⟨x, y, a, b⟩) + lim n := IntWalk.i64_in _ (by omega)
    have k3 : IntKind.i64.wrap ((Rc.y0 ⟨x, y, a, b⟩) - lim n) = (Rc.y0 ⟨x, y, a, b⟩) - lim n := IntWalk.i64_in _ (by omega)
    have k4 : IntKind.i64.wrap ((Rc.y1 ⟨x, y, a, b⟩) + lim n) = (Rc.y1 ⟨x, y, a, b⟩) + lim n := IntWalk.i64_in _ (by omega)
    clear c45 u1 u2 u3 u4 u5 u6 u7 u8 l1 l2
    go_enter Try.func59, Try.ntmps59
    go_wp2_with (first | (go_at_call 41; refine (t16 _ _ _ _ _ (by assumption) (by assumption) (by assumption) (by assumption)).mono ?_; rintro e w1 ⟨rfl, hg⟩; obtain ⟨hc, hf⟩ := bcell hg.1; have hz : w.heap.size + 1 < w1.heap.size := (by have := hg.1.size; (try simp at this); omega); have hz0 : w.heap.size < w1.heap.size := (by omega); have G : Gr w w1 := (by first | exact Gr.trans (by assumption) hg | exact Gr.trans (by constructor <;> go_grown) hg)) | (go_at_call 78; ((with_reducible refine (t40_0 _ _ _ _ _ (by assumption) (by assumption) (by assumption) (by assumption)).mono ?_)); rintro e w1 ⟨rfl, hg⟩; obtain ⟨hc, hf⟩ := bcell hg.1; have hz : w.heap.size + 1 < w1.heap.size := (by have := hg.1.size; (try simp at this); omega); have hz0 : w.heap.size < w1.heap.size := (by omega); have G : Gr w w1 := (by first | exact Gr.trans (by assumption) hg | exact Gr.trans (by constructor <;> go_grown) hg)) | (go_at_call 78; ((with_reducible refine (t40_1 _ _ _ _ _ (by assumption) (by assumption) (by assumption) (by assumption)).mono ?_)); rintro e w1 ⟨rfl, hg⟩; obtain ⟨hc, hf⟩ := bcell hg.1; have hz : w.heap.size + 1 < w1.heap.size := (by have := hg.1.size; (try simp at this); omega); have hz0 : w.heap.size < w1.heap.size := (by omega); have G : Gr w w1 := (by first | exact Gr.trans (by assumption) hg | exact Gr.trans (by constructor <;> go_grown) hg)) | (go_at_call 79; refine (t46 _ _).mono ?_; rintro e w1 ⟨rfl, rfl⟩) | (go_at_call 80; ((with_reducible refine (C45.out _).mono ?_)); rintro e w1 ⟨rfl, hg⟩; obtain ⟨hc, hf⟩ := bcell hg.1; have hz : w.heap.size + 1 < w1.heap.size := (by have := hg.1.size; (try simp at this); omega); have hz0 : w.heap.size < w1.heap.size := (by omega); have G : Gr w w1 := (by first | exact Gr.trans (by assumption) hg | exact Gr.trans (by constructor <;> go_grown) hg)))
    exact bodyPost_ret (v := .agg #[.int .i64 R.x, .int .i64 R.y, .int .i64 R.w, .int .i64 R.h]) (by simp [results, Try.results59, go_sem, *]) rfl ⟨rfl, by obtain ⟨G1, G2⟩ := G; constructor <;> go_grown⟩
  · have E : Rc.grow ⟨x, y, a, b⟩ n = ⟨0, 0, 0, 0⟩ := by unfold Rc.grow; rw [h1]; rfl
    rw [E]
    clear E u1 u2 u3 u4 u5 u6 u7 u8
    go_enter Try.func59, Try.ntmps59
    go_wp2_with (first | (go_at_call 41; refine (t16 _ _ _ _ _ (by assumption) (by assumption) (by assumption) (by assumption)).mono ?_; rintro e w1 ⟨rfl, hg⟩; obtain ⟨hc, hf⟩ := bcell hg.1; have hz : w.heap.size + 1 < w1.heap.size := (by have := hg.1.size; (try simp at this); omega); have hz0 : w.heap.size < w1.heap.size := (by omega); have G : Gr w w1 := (by first | exact Gr.trans (by assumption) hg | exact Gr.trans (by constructor <;> go_grown) hg)) | (go_at_call 78; ((with_reducible refine (t40_0 _ _ _ _ _ (by assumption) (by assumption) (by assumption) (by assumption)).mono ?_)); rintro e w1 ⟨rfl, hg⟩; obtain ⟨hc, hf⟩ := bcell hg.1; have hz : w.heap.size + 1 < w1.heap.size := (by have := hg.1.size; (try simp at this); omega); have hz0 : w.heap.size < w1.heap.size := (by omega); have G : Gr w w1 := (by first | exact Gr.trans (by assumption) hg | exact Gr.trans (by constructor <;> go_grown) hg)) | (go_at_call 78; ((with_reducible refine (t40_1 _ _ _ _ _ (by assumption) (by assumption) (by assumption) (by assumption)).mono ?_)); rintro e w1 ⟨rfl, hg⟩; obtain ⟨hc, hf⟩ := bcell hg.1; have hz : w.heap.size + 1 < w1.heap.size := (by have := hg.1.size; (try simp at this); omega); have hz0 : w.heap.size < w1.heap.size := (by omega); have G : Gr w w1 := (by first | exact Gr.trans (by assumption) hg | exact Gr.trans (by constructor <;> go_grown) hg)))
    exact bodyPost_ret (v := .agg #[.int .i64 0, .int .i64 0, .int .i64 0, .int .i64 0]) (by simp [results, Try.results59, go_sem, *]) rfl ⟨rfl, by obtain ⟨G1, G2⟩ := G; constructor <;> go_grown⟩
end

section
open Go.RowKit
set_option maxHeartbeats 400000
set_option linter.unusedVariables false
/-- the tile of a coordinate. -/
def til (x : Int) : Int := (x + 1048576) / 16 - 65536
/-- the pixels of a tile. -/
def Rc.tile (p q : Int) : Rc := if p < -65536 ∨ 65536 ≤ p ∨ q < -65536 ∨ 65536 ≤ q then Rc.zero else ⟨p * 16, q * 16, 16, 16⟩
end

section
open Go.RowKit
set_option maxHeartbeats 400000
set_option linter.unusedVariables false
theorem Aside.mk4 {a b c d : Prop} (h1 : a) (h2 : b) (h3 : c) (h4 : d) : Aside (a ∧ b ∧ c ∧ d) := ⟨h1, h2, h3, h4⟩
/-- the cells of a list of rectangles. -/
def cellsR (l : List Rc) : List Value := l.flatMap fun r => [.int .i64 r.x, .int .i64 r.y, .int .i64 r.w, .int .i64 r.h]
/-- the four pieces about an intersection, in their order. -/
def pieces (r m : Rc) : List Rc := [rcOf r.x0 r.x1 r.y0 (m.y0 - 1), rcOf r.x0 (m.x0 - 1) m.y0 m.y1, rcOf (m.x1 + 1) r.x1 m.y0 m.y1, rcOf r.x0 r.x1 (m.y1 + 1) r.y1]
def Rc.minus (r s : Rc) : List Rc := if r.emp then [] else if (r.meet s).emp then [r] else (pieces r (r.meet s)).filter (!·.emp)
theorem rcOf_bd (a b c d : Int) (h1 : -8388608 ≤ a ∧ a ≤ 8388608) (h2 : -8388608 ≤ b ∧ b ≤ 8388608) (h3 : -8388608 ≤ c ∧ c ≤ 8388608) (h4 : -8388608 ≤ d ∧ d ≤ 8388608) :
    (-9223372036854775808 ≤ (rcOf a b c d).x ∧ (rcOf a b c d).x ≤ 9223372036854775807) ∧ (-9223372036854775808 ≤ (rcOf a b c d).y ∧ (rcOf a b c d).y ≤ 9223372036854775807) := by
  unfold rcOf
  split <;> simp <;> omega
theorem meet_bd (r s : Rc) :
    (-9223372036854775808 ≤ (r.meet s).x ∧ (r.meet s).x ≤ 9223372036854775807) ∧ (-9223372036854775808 ≤ (r.meet s).y ∧ (r.meet s).y ≤ 9223372036854775807) := by
  unfold Rc.meet
  have := x0_bd r
  have := x0_bd s
  split
  · simp [Rc.zero]
  · exact rcOf_bd _ _ _ _ (by omega) (by omega) (by omega) (by omega)
theorem info23 : (Try.prog.info? 33).map (fun i => (i.zero, i.size, i.bytes)) = some (some (.agg #[.int .i64 0, .int .i64 0, .int .i64 0, .int .i64 0]), 4, 32) := by kernel_rfl
theorem lit_cells (w : World) (a b c d : Rc) (t : TypeId) (k : Nat) (hk : k < 4) :
    (w.alloc (.cells #[.int .i64 a.x, .int .i64 a.y, .int .i64 a.w, .int .i64 a.h, .int .i64 b.x, .int .i64 b.y, .int .i64 b.w, .int .i64 b.h, .int .i64 c.x, .int .i64 c.y, .int .i64 c.w, .int .i64 c.h, .int .i64 d.x, .int .i64 d.y, .int .i64 d.w, .int .i64 d.h] t)).cell? ⟨w.heap.size, k * 4, none⟩ = some (.int .i64 ([a, b, c, d].getD k Rc.zero).x) ∧
    (w.alloc (.cells #[.int .i64 a.x, .int .i64 a.y, .int .i64 a.w, .int .i64 a.h, .int .i64 b.x, .int .i64 b.y, .int .i64 b.w, .int .i64 b.h, .int .i64 c.x, .int .i64 c.y, .int .i64 c.w, .int .i64 c.h, .int .i64 d.x, .int .i64 d.y, .int .i64 d.w, .int .i64 d.h] t)).cell? ⟨w.heap.size, k * 4 + 1, none⟩ = some (.int .i64 ([a, b, c, d].getD k Rc.zero).y) ∧
    (w.alloc (.cells #[.int .i64 a.x, .int .i64 a.y, .int .i64 a.w, .int .i64 a.h, .int .i64 b.x, .int .i64 b.y, .int .i64 b.w, .int .i64 b.h, .int .i64 c.x, .int .i64 c.y, .int .i64 c.w, .int .i64 c.h, .int .i64 d.x, .int .i64 d.y, .int .i64 d.w, .int .i64 d.h] t)).cell? ⟨w.heap.size, k * 4 + 2, none⟩ = some (.int .i64 ([a, b, c, d].getD k Rc.zero).w) ∧
    (w.alloc (.cells #[.int .i64 a.x, .int .i64 a.y, .int .i64 a.w, .int .i64 a.h, .int .i64 b.x, .int .i64 b.y, .int .i64 b.w, .int .i64 b.h, .int .i64 c.x, .int .i64 c.y, .int .i64 c.w, .int .i64 c.h, .int .i64 d.x, .int .i64 d.y, .int .i64 d.w, .int .i64 d.h] t)).cell? ⟨w.heap.size, k * 4 + 3, none⟩ = some (.int .i64 ([a, b, c, d].getD k Rc.zero).h) := by
  rcases (by omega : k = 0 ∨ k = 1 ∨ k = 2 ∨ k = 3) with rfl | rfl | rfl | rfl <;> exact ⟨(World.cell?_alloc_at _ _ _ _ rfl).trans rfl, (World.cell?_alloc_at _ _ _ _ rfl).trans rfl, (World.cell?_alloc_at _ _ _ _ rfl).trans rfl, (World.cell?_alloc_at _ _ _ _ rfl).trans rfl⟩
/-- a rectangle's place is one of 64 bits. -/
def Rc.big (r : Rc) : Prop := (-9223372036854775808 ≤ r.x ∧ r.x ≤ 9223372036854775807) ∧ (-9223372036854775808 ≤ r.y ∧ r.y ≤ 9223372036854775807)
theorem lit_bd {a b c d : Rc} (h : a.big ∧ b.big ∧ c.big ∧ d.big) (k : Nat) (hk : k < 4) : ([a, b, c, d].getD k Rc.zero).big := by
  obtain ⟨h1, h2, h3, h4⟩ := h
  rcases (by omega : k = 0 ∨ k = 1 ∨ k = 2 ∨ k = 3) with rfl | rfl | rfl | rfl
  · exact h1
  · exact h2
  · exact h3
  · exact h4
/-- the rectangles that are not empty among the first ones. -/
def kep (l : List Rc) (k : Nat) : List Rc := (l.take k).filter (!·.emp)
theorem kep_hit (l : List Rc) (k : Nat) (hk : k < l.length) (h : (l.getD k Rc.zero).emp = false) : kep l (k + 1) = kep l k ++ [l.getD k Rc.zero] := by
  have e : l.take (k + 1) = l.take k ++ [l.getD k Rc.zero] := by rw [List.take_succ_eq_append_getElem hk, List.getD_eq_getElem?_getD]; simp [hk]
  unfold kep; rw [e, List.filter_append, List.filter_cons]; rw [h]; simp
theorem kep_miss (l : List Rc) (k : Nat) (hk : k < l.length) (h : (l.getD k Rc.zero).emp = true) : kep l (k + 1) = kep l k := by
  have e : l.take (k + 1) = l.take k ++ [l.getD k Rc.zero] := by rw [List.take_succ_eq_append_getElem hk, List.getD_eq_getElem?_getD]; simp [hk]
  unfold kep; rw [e, List.filter_append, List.filter_cons]; rw [h]; simp
theorem kep_le (l : List Rc) (k : Nat) : (kep l k).length ≤ k := Nat.le_trans (List.length_filter_le _ _) (List.length_take_le _ _)
theorem cellsR_append (a b : List Rc) : cellsR (a ++ b) = cellsR a ++ cellsR b := List.flatMap_append
theorem kept_R (l : List Rc) : l.filter (!·.emp) = kep l l.length := by unfold kep; rw [List.take_length]
theorem ownsRow_below {w w' : World} {base : Nat} {t : TypeId} {size : Nat} {v : Value} {n : Nat} {xs : List Value} (h : w.ownsRow base t size v n xs) (hb : Below w.heap.size w w') : w'.ownsRow base t size v n xs :=
  World.ownsRow.kept (row := none) h ⟨hb.os, hb.tape, hb.output, hb.size, fun k hk _ => hb.block k hk⟩ (by cases hv : v.ownBlock <;> simp)
theorem rel_append {B : Nat} {w wr w2 w3 : World} {v : Value} {t : TypeId} {size n : Nat} {xs : List Value} {o : Obj} (hnx : Below B w wr) (hown : wr.ownsRow B t size v n xs) (hg : Gr wr w2) (hB : B ≤ wr.heap.size) (hgrow : (w2.alloc o).grownBy w3 v.ownBlock) : Below B w w3 := by
  have hs := hg.1.size
  refine Below.grown ((hnx.trans (hg.1.mono hB)).alloc (by omega) o) hgrow (by simp; omega) fun k hk => (hown.lt k hk).1
end

section
open Go.RowKit
set_option maxHeartbeats 400000
set_option linter.unusedVariables false
/-- the cells of a list of points. -/
def cellsP (l : List (Int × Int)) : List Value := l.flatMap fun p => [.int .i64 p.1, .int .i64 p.2]
/-- points side by side. -/
def rowT (x y : Int) (k : Nat) : List (Int × Int) := (List.range k).map fun i : Nat => (x + (i : Int), y)
/-- rows of n points. -/
def colT (x y : Int) (n k : Nat) : List (Int × Int) := (List.range k).flatMap fun j : Nat => rowT x (y + (j : Int)) n
theorem rowT_succ (x y : Int) (k : Nat) : rowT x y (k + 1) = rowT x y k ++ [(x + k, y)] := by unfold rowT; rw [List.range_succ, List.map_append]; rfl
theorem colT_succ (x y : Int) (n k : Nat) : colT x y n (k + 1) = colT x y n k ++ rowT x (y + k) n := by unfold colT; rw [List.range_succ, List.flatMap_append]; simp
theorem rowT_len (x y : Int) (k : Nat) : (rowT x y k).length = k := by simp [rowT]
theorem colT_len (x y : Int) (n k : Nat) : (colT x y n k).length = k * n := by
  induction k with
  | zero => simp [colT]
  | succ k ih => rw [colT_succ, List.length_append, ih, rowT_len, Nat.succ_mul]
theorem cellsP_append (a b : List (Int × Int)) : cellsP (a ++ b) = cellsP a ++ cellsP b := List.flatMap_append
theorem part_len {x y z : Int} {n m j i : Nat} (h : m * n ≤ 4096) (hj : j < m) (hi : i ≤ n) : (colT x y n j ++ rowT x z i).length ≤ 4096 := by
  rw [List.length_append, colT_len, rowT_len]
  have : (j + 1) * n ≤ m * n := Nat.mul_le_mul_right n hj
  rw [Nat.succ_mul] at this
  omega
/-- how many tiles lie between two coordinates. -/
def cnt (a b : Int) : Nat := (til b - til a + 1).toNat
/-- the tiles that a rectangle meets; none where they are too many. -/
def Rc.tiles (r : Rc) : List (Int × Int) := if r.emp then [] else if 4096 < cnt r.x0 r.x1 * cnt r.y0 r.y1 then [] else colT (til r.x0) (til r.y0) (cnt r.x0 r.x1) (cnt r.y0 r.y1)
theorem x0_le (r : Rc) (h : r.emp = false) : r.x0 ≤ r.x1 ∧ r.y0 ≤ r.y1 := by
  obtain ⟨x, y, a, b⟩ := r
  have hw := rc_ways x y a b
  unfold Rc.x0 Rc.x1 Rc.y0 Rc.y1
  rw [h] at *
  rcases hw with ⟨_, h2⟩ | ⟨_, _, h2⟩ | ⟨_, _, _, h2⟩ | ⟨h1, h2, h3, _⟩
  · cases h2
  · cases h2
  · cases h2
  · have := vld_bd h1
    simp at h2 h3 ⊢
    omega
theorem til_le {a b : Int} (h : a ≤ b) : til a ≤ til b := by unfold til; omega
theorem til_bd {a : Int} (h : -1048576 ≤ a) (h' : a ≤ 1048576) : -65536 ≤ til a ∧ til a ≤ 65536 := by unfold til; omega
theorem mul_bd {n m : Nat} (h : (n : Int) ≤ 131073) (h' : (m : Int) ≤ 131073) : 0 ≤ (n : Int) * (m : Int) ∧ (n : Int) * (m : Int) ≤ 17180131329 := by
  have h1 : 0 ≤ (n : Int) * (m : Int) := Int.mul_nonneg (by omega) (by omega)
  have h2 : (n : Int) * (m : Int) ≤ 131073 * 131073 := Int.mul_le_mul h h' (by omega) (by omega)
  omega
theorem info25 : (Try.prog.info? 29).map (fun i => (i.zero, i.size, i.bytes)) = some (some (.agg #[.int .i64 0, .int .i64 0]), 2, 16) := by kernel_rfl
end

section
open Go.RowKit
set_option maxHeartbeats 400000
set_option linter.unusedVariables false
theorem cellsR_len (l : List Rc) : (cellsR l).length = l.length * 4 := by
  induction l with
  | nil => rfl
  | cons p l ih => rw [show cellsR (p :: l) = cellsR [p] ++ cellsR l from cellsR_append [p] l, List.length_append, ih, List.length_cons, Nat.succ_mul, Nat.add_comm]; rfl
theorem cellsR_at (l : List Rc) (k : Nat) (hk : k < l.length) : (cellsR l)[k * 4]? = some (.int .i64 (l.getD k Rc.zero).x) ∧ (cellsR l)[k * 4 + 1]? = some (.int .i64 (l.getD k Rc.zero).y) ∧ (cellsR l)[k * 4 + 2]? = some (.int .i64 (l.getD k Rc.zero).w) ∧ (cellsR l)[k * 4 + 3]? = some (.int .i64 (l.getD k Rc.zero).h) := by
  induction l generalizing k with
  | nil => simp at hk
  | cons p l ih =>
    rw [show cellsR (p :: l) = cellsR [p] ++ cellsR l from cellsR_append [p] l]
    cases k with
    | zero => exact ⟨rfl, rfl, rfl, rfl⟩
    | succ k =>
      obtain ⟨h0, h1, h2, h3⟩ := ih k (by simpa using hk)
      have e : ∀ o, (cellsR [p] ++ cellsR l)[(k + 1) * 4 + o]? = (cellsR l)[k * 4 + o]? := fun o => by
        rw [List.getElem?_append_right (by show 4 ≤ _; omega)]
        congr 1
        show (k + 1) * 4 + o - 4 = _
        omega
      exact ⟨(e 0).trans h0, (e 1).trans h1, (e 2).trans h2, (e 3).trans h3⟩
theorem cellsP_len (l : List (Int × Int)) : (cellsP l).length = l.length * 2 := by
  induction l with
  | nil => rfl
  | cons p l ih => rw [show cellsP (p :: l) = cellsP [p] ++ cellsP l from cellsP_append [p] l, List.length_append, ih, List.length_cons, Nat.succ_mul, Nat.add_comm]; rfl
theorem cellsP_at (l : List (Int × Int)) (k : Nat) (hk : k < l.length) : (cellsP l)[k * 2]? = some (.int .i64 (l.getD k (0, 0)).1) ∧ (cellsP l)[k * 2 + 1]? = some (.int .i64 (l.getD k (0, 0)).2) := by
  induction l generalizing k with
  | nil => simp at hk
  | cons p l ih =>
    rw [show cellsP (p :: l) = cellsP [p] ++ cellsP l from cellsP_append [p] l]
    cases k with
    | zero => exact ⟨rfl, rfl⟩
    | succ k =>
      obtain ⟨h0, h1⟩ := ih k (by simpa using hk)
      have e : ∀ o, (cellsP [p] ++ cellsP l)[(k + 1) * 2 + o]? = (cellsP l)[k * 2 + o]? := fun o => by
        rw [List.getElem?_append_right (by show 2 ≤ _; omega)]
        congr 1
        show (k + 1) * 2 + o - 2 = _
        omega
      exact ⟨(e 0).trans h0, (e 1).trans h1⟩
end

end Go.Proofs.Ythknkgblddoapaa
