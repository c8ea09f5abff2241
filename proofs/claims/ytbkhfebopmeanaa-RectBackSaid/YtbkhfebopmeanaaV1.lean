import Derived.Test.YtbkhfebopmeanaaProg
import Derived.WalkKit
import Derived.WalkLawsBesides
import Derived.Outline
import Derived.Lib.Walk
import Derived.Deep.QuietTactic
import Derived.BigQuiet
import Derived.RowKit3
import Derived.Deep.LoopGhost
import Derived.Great.Walk
import Derived.Great.BuildSlice
import Derived.Laws.Rows
import Derived.Laws.Tables
import Derived.Laws.CopyOwn
import Derived.Lib.Hide
import Derived.Handy
namespace Go.Proofs.Ytbkhfebopmeanaa
open Go.RowKit
set_option maxHeartbeats 400000
set_option linter.unusedVariables false
/-- a rectangle. -/
structure Rc where
  x : Int
  y : Int
  w : Int
  h : Int
/-- its value in Go. -/
def Rc.val (r : Rc) : Value := .agg #[.int .i64 r.x, .int .i64 r.y, .int .i64 r.w, .int .i64 r.h]
def Rc.vld (r : Rc) : Bool := decide (-1048576 ≤ r.x ∧ r.x ≤ 1048576 ∧ -1048576 ≤ r.y ∧ r.y ≤ 1048576 ∧ 0 ≤ r.w ∧ 0 ≤ r.h ∧ r.w ≤ 1048576 - r.x ∧ r.h ≤ 1048576 - r.y)
/-- a world with more blocks behind its own, of which nothing has turned. -/
def Gr (w w' : World) : Prop := Below w.heap.size w w' ∧ Grown w w'
theorem ret_bool {a b : Bool} (h : a = b) : Ending.returned (.bool a) = .returned (.bool b) := by rw [h]
theorem t14 (x y a b : Int) (w : World) (hx : -9223372036854775808 ≤ x) (hx' : x ≤ 9223372036854775807) (hy : -9223372036854775808 ≤ y) (hy' : y ≤ 9223372036854775807) :
    Calls Try.prog 14 #[.agg #[.int .i64 x, .int .i64 y, .int .i64 a, .int .i64 b]] w fun e w' => e = .returned (.bool (Rc.vld ⟨x, y, a, b⟩)) ∧ Gr w w' := by
  go_enter Try.func14, Try.ntmps14
  go_wp2
  all_goals
    go_ret
    refine ⟨ret_bool ?_, by constructor <;> go_grown⟩
    show _ = _
    unfold Rc.vld
    rw [Bool.eq_iff_iff]
    simp
    omega

def Rc.emp (r : Rc) : Bool := !r.vld || r.w == 0 || r.h == 0
/-- the first and the last coordinate on each axis. -/
def Rc.x0 (r : Rc) : Int := if r.emp then 0 else r.x
def Rc.x1 (r : Rc) : Int := if r.emp then -1 else r.x + r.w - 1
def Rc.y0 (r : Rc) : Int := if r.emp then 0 else r.y
def Rc.y1 (r : Rc) : Int := if r.emp then -1 else r.y + r.h - 1
theorem vld_bd {x y a b : Int} (h : Rc.vld ⟨x, y, a, b⟩ = true) : -1048576 ≤ x ∧ x ≤ 1048576 ∧ -1048576 ≤ y ∧ y ≤ 1048576 ∧ 0 ≤ a ∧ 0 ≤ b ∧ a ≤ 1048576 - x ∧ b ≤ 1048576 - y := of_decide_eq_true h
/-- the ways of a rectangle: not valid, without pixels, with pixels. -/
theorem rc_ways (x y a b : Int) :
    (Rc.vld ⟨x, y, a, b⟩ = false ∧ Rc.emp ⟨x, y, a, b⟩ = true) ∨ (Rc.vld ⟨x, y, a, b⟩ = true ∧ (a == 0) = true ∧ Rc.emp ⟨x, y, a, b⟩ = true) ∨
    (Rc.vld ⟨x, y, a, b⟩ = true ∧ (a == 0) = false ∧ (b == 0) = true ∧ Rc.emp ⟨x, y, a, b⟩ = true) ∨ (Rc.vld ⟨x, y, a, b⟩ = true ∧ (a == 0) = false ∧ (b == 0) = false ∧ Rc.emp ⟨x, y, a, b⟩ = false) := by
  unfold Rc.emp
  cases Rc.vld ⟨x, y, a, b⟩ <;> cases h1 : (a == 0) <;> cases h2 : (b == 0) <;> simp_all
theorem bcell {W w1 : World} (hb : Below W.heap.size W w1) : (∀ b o, b < W.heap.size → w1.cell? ⟨b, o, none⟩ = W.cell? ⟨b, o, none⟩) ∧ (∀ b o, b < W.heap.size → w1.frozen? ⟨b, o, none⟩ = W.frozen? ⟨b, o, none⟩) :=
  ⟨fun b o h => hb.cell (p := ⟨b, o, none⟩) h, fun b o h => hb.frozen (p := ⟨b, o, none⟩) h⟩
theorem Grown.trans {a b c : World} (h : Grown a b) (k : Grown b c) : Grown a c :=
  ⟨World.keptBut_trans h.1 k.1, fun x => (k.2.1 x).trans (h.2.1 x), Nat.le_trans h.2.2 k.2.2⟩
theorem Grown.drewN {W w' : World} (h : Grown W w') : ∀ n, Grown W (w'.drewN n)
  | 0 => h
  | n + 1 => Grown.drewN (w' := w'.drew) h.drew n
theorem Gr.refl (w : World) : Gr w w := ⟨Below.refl _ _, Grown.refl _⟩
theorem Gr.trans {a b c : World} (h : Gr a b) (k : Gr b c) : Gr a c := ⟨h.1.trans (k.1.mono h.1.size), Grown.trans h.2 k.2⟩
theorem Gr.drewN {a b : World} (h : Gr a b) (n : Nat) : Gr a (b.drewN n) := ⟨h.1.trans ⟨rfl, rfl, rfl, Nat.le_refl _, fun _ _ => rfl⟩, Grown.drewN h.2 n⟩
theorem Gr.alloc {a b : World} (h : Gr a b) (c : Array Value) (t : TypeId) : Gr a (b.alloc (.cells c t)) := ⟨h.1.alloc h.1.size _, h.2.alloc _ _⟩
end Go.Proofs.Ytbkhfebopmeanaa
