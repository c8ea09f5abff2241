import Derived.Test.YtbkhfebopmeanaaProg
import Derived.WalkKit
import Derived.WalkLawsBesides
import Derived.Outline
import Derived.Lib.Walk
import Derived.Deep.QuietTactic
import Derived.BigQuiet
import Derived.RowKit3
import Derived.Deep.LoopGhost
import Derived.Great.Walk
import Derived.Great.BuildSlice
import Derived.Laws.Rows
import Derived.Laws.Tables
import Derived.Laws.CopyOwn
import Derived.Lib.Hide
import Derived.Handy
import Derived.Test.YtbkhfebopmeanaaV2
import Derived.Test.YtbkhfebopmeanaaV3
import Derived.Test.YtbkhfebopmeanaaV4
import Derived.Test.YtbkhfebopmeanaaV5
import Derived.Test.YtbkhfebopmeanaaV6
import Derived.StillTailTactics
import Derived.Test.YtbkhfebopmeanaaV7
import Derived.Test.YtbkhfebopmeanaaV8
import Derived.Deep.Onto
import Derived.Test.YtbkhfebopmeanaaV9
import Derived.Test.YtbkhfebopmeanaaV10
import Derived.Test.YtbkhfebopmeanaaV11
import Derived.Test.YtbkhfebopmeanaaVI
import Derived.Test.YtbkhfebopmeanaaVA
import Derived.Test.YtbkhfebopmeanaaVM
import Derived.Deep.RegionHeld3
namespace Go.Proofs.Ytbkhfebopmeanaa
open Go.RowKit
set_option maxHeartbeats 400000
set_option linter.unusedVariables false
theorem held_take {P : Program} {ops : Array Oper} {Q : Exit → Act → World → Prop} {md : Region.Mode} {S : World → Prop} {i : Nat} {oi : Oper} {fuel : Nat} {listed : Array Bool} {a : Act} {w : World} (d : Option Tmp) (v : Value) (hi : ops[i]? = some oi) (hd : oi.dst = d)
    (hs : Region.noSelect ops = true) (hf : Region.free md ops listed i = true) (hr : (Region.ready md ops listed).contains i = true) (hQ : ∀ c a w, Q (.panic c) (a.put oi.dst v) w → Q (.panic c) a w)
    (hw : Region.wanted oi (yielded ops a.tmps) = true) (hy : ∀ w, S w → (execOp a.eval oi).run P w = .ok (.value v) w) (hS : S w) (h : wpAnyH P md ops Q S fuel (listed.setIfInBounds i true) (a.put d v) w) : wpAnyH P md ops Q S (fuel + 1) listed a w := by
  subst hd
  exact wpAnyH_take hi hs hf hr hQ (Or.inl ⟨hw, hy⟩) hS h
/-- an operation that is not wanted, taken first. -/
theorem held_skip {P : Program} {ops : Array Oper} {Q : Exit → Act → World → Prop} {md : Region.Mode} {S : World → Prop} {i : Nat} {oi : Oper} {fuel : Nat} {listed : Array Bool} {a : Act} {w : World} (d : Option Tmp) (hi : ops[i]? = some oi) (hd : oi.dst = d)
    (hs : Region.noSelect ops = true) (hf : Region.free md ops listed i = true) (hr : (Region.ready md ops listed).contains i = true) (hQ : ∀ c a w, Q (.panic c) (a.put oi.dst undef) w → Q (.panic c) a w)
    (hw : Region.wanted oi (yielded ops a.tmps) = false) (hS : S w) (h : wpAnyH P md ops Q S fuel (listed.setIfInBounds i true) (a.put d undef) w) : wpAnyH P md ops Q S (fuel + 1) listed a w := by
  subst hd
  exact wpAnyH_take hi hs hf hr hQ (Or.inr ⟨hw, rfl⟩) hS h
theorem three (w : World) (c1 c2 c3 : Array Value) (t1 t2 t3 : TypeId) (j : Nat) : (((w.alloc (.cells c1 t1)).alloc (.cells c2 t2)).alloc (.cells c3 t3)).drew.cell? ⟨w.heap.size, j, none⟩ = c1[j]? ∧
    (((w.alloc (.cells c1 t1)).alloc (.cells c2 t2)).alloc (.cells c3 t3)).drew.cell? ⟨w.heap.size + 1, j, none⟩ = c2[j]? ∧ (((w.alloc (.cells c1 t1)).alloc (.cells c2 t2)).alloc (.cells c3 t3)).drew.cell? ⟨w.heap.size + 2, j, none⟩ = c3[j]? :=
  ⟨(World.cell?_alloc_past _ _ _ (by simp; omega)).trans ((World.cell?_alloc_past _ _ _ (by simp)).trans (World.cell?_alloc_at _ _ _ _ rfl)),
    (World.cell?_alloc_past _ _ _ (by simp)).trans (World.cell?_alloc_at _ _ _ _ (by simp)), World.cell?_alloc_at _ _ _ _ (by simp)⟩
theorem join_bd (x y a b p q c d : Int) (hx : -9223372036854775808 ≤ x ∧ x ≤ 9223372036854775807) (hy : -9223372036854775808 ≤ y ∧ y ≤ 9223372036854775807) (hp : -9223372036854775808 ≤ p ∧ p ≤ 9223372036854775807) (hq : -9223372036854775808 ≤ q ∧ q ≤ 9223372036854775807) :
    (-9223372036854775808 ≤ (Rc.join ⟨x, y, a, b⟩ ⟨p, q, c, d⟩).x ∧ (Rc.join ⟨x, y, a, b⟩ ⟨p, q, c, d⟩).x ≤ 9223372036854775807) ∧ (-9223372036854775808 ≤ (Rc.join ⟨x, y, a, b⟩ ⟨p, q, c, d⟩).y ∧ (Rc.join ⟨x, y, a, b⟩ ⟨p, q, c, d⟩).y ≤ 9223372036854775807) := by
  unfold Rc.join
  have := x0_bd ⟨x, y, a, b⟩
  have := x0_bd ⟨p, q, c, d⟩
  split
  · split
    · exact ⟨by decide, by decide⟩
    · exact ⟨hp, hq⟩
  · split
    · exact ⟨hx, hy⟩
    · exact rcOf_bd _ _ _ _ (by omega) (by omega) (by omega) (by omega)
set_option maxHeartbeats 4000000 in
theorem lattice (x y a b p q c d u v k l : Int) (w : World) (hx : -9223372036854775808 ≤ x ∧ x ≤ 9223372036854775807) (hy : -9223372036854775808 ≤ y ∧ y ≤ 9223372036854775807) (hp : -9223372036854775808 ≤ p ∧ p ≤ 9223372036854775807) (hq : -9223372036854775808 ≤ q ∧ q ≤ 9223372036854775807) (hu : -9223372036854775808 ≤ u ∧ u ≤ 9223372036854775807) (hv : -9223372036854775808 ≤ v ∧ v ≤ 9223372036854775807) : Calls Try.prog 8 #[.agg #[.int .i64 x, .int .i64 y, .int .i64 a, .int .i64 b], .agg #[.int .i64 p, .int .i64 q, .int .i64 c, .int .i64 d], .agg #[.int .i64 u, .int .i64 v, .int .i64 k, .int .i64 l]] w fun e w' => e = .returned (.bool true) ∧ Below w.heap.size w w' := by
  have bM := meet_bd ⟨x, y, a, b⟩ ⟨p, q, c, d⟩
  have bN := meet_bd ⟨p, q, c, d⟩ ⟨u, v, k, l⟩
  have bJ := join_bd x y a b p q c d hx hy hp hq
  have e2 := meet_comm ⟨p, q, c, d⟩ ⟨x, y, a, b⟩
  have e5 := meet_assoc ⟨x, y, a, b⟩ ⟨p, q, c, d⟩ ⟨u, v, k, l⟩
  have e6 := meet_meet ⟨x, y, a, b⟩ ⟨p, q, c, d⟩
  have e7 := meet_wit_l ⟨x, y, a, b⟩ ⟨p, q, c, d⟩
  have e8 := meet_wit_r ⟨x, y, a, b⟩ ⟨p, q, c, d⟩
  have e10 := meet_self ⟨x, y, a, b⟩
  have e12 := meet_join ⟨x, y, a, b⟩ ⟨p, q, c, d⟩
  have c1 := fun w => qMeet x y a b p q c d w hx hy hp hq
  have c2 := fun w => qMeet p q c d x y a b w hp hq hx hy
  have c4 := fun w => qMeet p q c d u v k l w hp hq hu hv
  have c11 := fun w => qJoin x y a b p q c d w hx hy hp hq
  rw [e2] at c2
  generalize Rc.meet ⟨x, y, a, b⟩ ⟨p, q, c, d⟩ = M at *
  generalize Rc.meet ⟨p, q, c, d⟩ ⟨u, v, k, l⟩ = N at *
  generalize Rc.join ⟨x, y, a, b⟩ ⟨p, q, c, d⟩ = J at *
  obtain ⟨T, hT⟩ : ∃ T, Rc.meet ⟨x, y, a, b⟩ N = T := ⟨_, rfl⟩
  rw [hT] at e5
  have c3 : ∀ w, Calls Try.prog 23 #[.agg #[.int .i64 M.x, .int .i64 M.y, .int .i64 M.w, .int .i64 M.h], .agg #[.int .i64 u, .int .i64 v, .int .i64 k, .int .i64 l]] w fun e w' => e = .returned (Rc.val T) ∧ Below w.heap.size w w' := fun w => by rw [← e5]; exact qMeet M.x M.y M.w M.h u v k l w bM.1 bM.2 hu hv
  have c5 : ∀ w, Calls Try.prog 23 #[.agg #[.int .i64 x, .int .i64 y, .int .i64 a, .int .i64 b], .agg #[.int .i64 N.x, .int .i64 N.y, .int .i64 N.w, .int .i64 N.h]] w fun e w' => e = .returned (Rc.val T) ∧ Below w.heap.size w w' := fun w => by rw [← hT]; exact qMeet x y a b N.x N.y N.w N.h w hx hy bN.1 bN.2
  have c6 : ∀ w, Calls Try.prog 23 #[.agg #[.int .i64 M.x, .int .i64 M.y, .int .i64 M.w, .int .i64 M.h], .agg #[.int .i64 M.x, .int .i64 M.y, .int .i64 M.w, .int .i64 M.h]] w fun e w' => e = .returned (Rc.val M) ∧ Below w.heap.size w w' := fun w => by have h := qMeet M.x M.y M.w M.h M.x M.y M.w M.h w bM.1 bM.2 bM.1 bM.2; rwa [show Rc.meet ⟨M.x, M.y, M.w, M.h⟩ ⟨M.x, M.y, M.w, M.h⟩ = M from e6] at h
  have c7 : ∀ w, Calls Try.prog 21 #[.agg #[.int .i64 M.x, .int .i64 M.y, .int .i64 M.w, .int .i64 M.h], .agg #[.int .i64 x, .int .i64 y, .int .i64 a, .int .i64 b]] w fun e w' => e = .returned (.bool true) ∧ Below w.heap.size w w' := fun w => by have h := qWithin M.x M.y M.w M.h x y a b w bM.1 bM.2 hx hy; rwa [show Rc.wit ⟨M.x, M.y, M.w, M.h⟩ ⟨x, y, a, b⟩ = true from e7] at h
  have c8 : ∀ w, Calls Try.prog 21 #[.agg #[.int .i64 M.x, .int .i64 M.y, .int .i64 M.w, .int .i64 M.h], .agg #[.int .i64 p, .int .i64 q, .int .i64 c, .int .i64 d]] w fun e w' => e = .returned (.bool true) ∧ Below w.heap.size w w' := fun w => by have h := qWithin M.x M.y M.w M.h p q c d w bM.1 bM.2 hp hq; rwa [show Rc.wit ⟨M.x, M.y, M.w, M.h⟩ ⟨p, q, c, d⟩ = true from e8] at h
  have c9 := fun w => qEmpty x y a b w hx hy
  unfold Rc.val at c1 c2 c3 c4 c5 c6 c11
  have C0 := Lib.hid awk
  have C1 := Lib.hid c1; have C2 := Lib.hid c2; have C3 := Lib.hid c3; have C4 := Lib.hid c4; have C5 := Lib.hid c5; have C6 := Lib.hid c6; have C7 := Lib.hid c7; have C8 := Lib.hid c8; have C11 := Lib.hid c11
  clear c1 c2 c3 c4 c5 c6 c7 c8 c11 e2 e5 e6 e7 e8 hT
  go_enter Try.func8, Try.ntmps8
  go_wp2_with fail
  have hB0 : Below w.heap.size w (((w.alloc (.cells #[.int .i64 x, .int .i64 y, .int .i64 a, .int .i64 b] 23)).alloc (.cells #[.int .i64 p, .int .i64 q, .int .i64 c, .int .i64 d] 23)).alloc (.cells #[.int .i64 u, .int .i64 v, .int .i64 k, .int .i64 l] 23)).drew := by go_grown
  have zs : w.heap.size + 3 ≤ (((w.alloc (.cells #[.int .i64 x, .int .i64 y, .int .i64 a, .int .i64 b] 23)).alloc (.cells #[.int .i64 p, .int .i64 q, .int .i64 c, .int .i64 d] 23)).alloc (.cells #[.int .i64 u, .int .i64 v, .int .i64 k, .int .i64 l] 23)).drew.heap.size := by simp
  have z00 : (((w.alloc (.cells #[.int .i64 x, .int .i64 y, .int .i64 a, .int .i64 b] 23)).alloc (.cells #[.int .i64 p, .int .i64 q, .int .i64 c, .int .i64 d] 23)).alloc (.cells #[.int .i64 u, .int .i64 v, .int .i64 k, .int .i64 l] 23)).drew.cell? ⟨w.heap.size, 0, none⟩ = some (.int .i64 x) := ((three w _ _ _ 23 23 23 0).1).trans rfl
  have z01 : (((w.alloc (.cells #[.int .i64 x, .int .i64 y, .int .i64 a, .int .i64 b] 23)).alloc (.cells #[.int .i64 p, .int .i64 q, .int .i64 c, .int .i64 d] 23)).alloc (.cells #[.int .i64 u, .int .i64 v, .int .i64 k, .int .i64 l] 23)).drew.cell? ⟨w.heap.size, 1, none⟩ = some (.int .i64 y) := ((three w _ _ _ 23 23 23 1).1).trans rfl
  have z02 : (((w.alloc (.cells #[.int .i64 x, .int .i64 y, .int .i64 a, .int .i64 b] 23)).alloc (.cells #[.int .i64 p, .int .i64 q, .int .i64 c, .int .i64 d] 23)).alloc (.cells #[.int .i64 u, .int .i64 v, .int .i64 k, .int .i64 l] 23)).drew.cell? ⟨w.heap.size, 2, none⟩ = some (.int .i64 a) := ((three w _ _ _ 23 23 23 2).1).trans rfl
  have z03 : (((w.alloc (.cells #[.int .i64 x, .int .i64 y, .int .i64 a, .int .i64 b] 23)).alloc (.cells #[.int .i64 p, .int .i64 q, .int .i64 c, .int .i64 d] 23)).alloc (.cells #[.int .i64 u, .int .i64 v, .int .i64 k, .int .i64 l] 23)).drew.cell? ⟨w.heap.size, 3, none⟩ = some (.int .i64 b) := ((three w _ _ _ 23 23 23 3).1).trans rfl
  have z10 : (((w.alloc (.cells #[.int .i64 x, .int .i64 y, .int .i64 a, .int .i64 b] 23)).alloc (.cells #[.int .i64 p, .int .i64 q, .int .i64 c, .int .i64 d] 23)).alloc (.cells #[.int .i64 u, .int .i64 v, .int .i64 k, .int .i64 l] 23)).drew.cell? ⟨w.heap.size + 1, 0, none⟩ = some (.int .i64 p) := ((three w _ _ _ 23 23 23 0).2.1).trans rfl
  have z11 : (((w.alloc (.cells #[.int .i64 x, .int .i64 y, .int .i64 a, .int .i64 b] 23)).alloc (.cells #[.int .i64 p, .int .i64 q, .int .i64 c, .int .i64 d] 23)).alloc (.cells #[.int .i64 u, .int .i64 v, .int .i64 k, .int .i64 l] 23)).drew.cell? ⟨w.heap.size + 1, 1, none⟩ = some (.int .i64 q) := ((three w _ _ _ 23 23 23 1).2.1).trans rfl
  have z12 : (((w.alloc (.cells #[.int .i64 x, .int .i64 y, .int .i64 a, .int .i64 b] 23)).alloc (.cells #[.int .i64 p, .int .i64 q, .int .i64 c, .int .i64 d] 23)).alloc (.cells #[.int .i64 u, .int .i64 v, .int .i64 k, .int .i64 l] 23)).drew.cell? ⟨w.heap.size + 1, 2, none⟩ = some (.int .i64 c) := ((three w _ _ _ 23 23 23 2).2.1).trans rfl
  have z13 : (((w.alloc (.cells #[.int .i64 x, .int .i64 y, .int .i64 a, .int .i64 b] 23)).alloc (.cells #[.int .i64 p, .int .i64 q, .int .i64 c, .int .i64 d] 23)).alloc (.cells #[.int .i64 u, .int .i64 v, .int .i64 k, .int .i64 l] 23)).drew.cell? ⟨w.heap.size + 1, 3, none⟩ = some (.int .i64 d) := ((three w _ _ _ 23 23 23 3).2.1).trans rfl
  have z20 : (((w.alloc (.cells #[.int .i64 x, .int .i64 y, .int .i64 a, .int .i64 b] 23)).alloc (.cells #[.int .i64 p, .int .i64 q, .int .i64 c, .int .i64 d] 23)).alloc (.cells #[.int .i64 u, .int .i64 v, .int .i64 k, .int .i64 l] 23)).drew.cell? ⟨w.heap.size + 2, 0, none⟩ = some (.int .i64 u) := ((three w _ _ _ 23 23 23 0).2.2).trans rfl
  have z21 : (((w.alloc (.cells #[.int .i64 x, .int .i64 y, .int .i64 a, .int .i64 b] 23)).alloc (.cells #[.int .i64 p, .int .i64 q, .int .i64 c, .int .i64 d] 23)).alloc (.cells #[.int .i64 u, .int .i64 v, .int .i64 k, .int .i64 l] 23)).drew.cell? ⟨w.heap.size + 2, 1, none⟩ = some (.int .i64 v) := ((three w _ _ _ 23 23 23 1).2.2).trans rfl
  have z22 : (((w.alloc (.cells #[.int .i64 x, .int .i64 y, .int .i64 a, .int .i64 b] 23)).alloc (.cells #[.int .i64 p, .int .i64 q, .int .i64 c, .int .i64 d] 23)).alloc (.cells #[.int .i64 u, .int .i64 v, .int .i64 k, .int .i64 l] 23)).drew.cell? ⟨w.heap.size + 2, 2, none⟩ = some (.int .i64 k) := ((three w _ _ _ 23 23 23 2).2.2).trans rfl
  have z23 : (((w.alloc (.cells #[.int .i64 x, .int .i64 y, .int .i64 a, .int .i64 b] 23)).alloc (.cells #[.int .i64 p, .int .i64 q, .int .i64 c, .int .i64 d] 23)).alloc (.cells #[.int .i64 u, .int .i64 v, .int .i64 k, .int .i64 l] 23)).drew.cell? ⟨w.heap.size + 2, 3, none⟩ = some (.int .i64 l) := ((three w _ _ _ 23 23 23 3).2.2).trans rfl
  have kp3 : ∀ W w1 : World, (fun W => Below w.heap.size w W ∧ w.heap.size + 3 ≤ W.heap.size ∧ W.cell? ⟨w.heap.size, 0, none⟩ = some (.int .i64 x) ∧ W.cell? ⟨w.heap.size, 1, none⟩ = some (.int .i64 y) ∧ W.cell? ⟨w.heap.size, 2, none⟩ = some (.int .i64 a) ∧ W.cell? ⟨w.heap.size, 3, none⟩ = some (.int .i64 b) ∧ W.cell? ⟨w.heap.size + 1, 0, none⟩ = some (.int .i64 p) ∧ W.cell? ⟨w.heap.size + 1, 1, none⟩ = some (.int .i64 q) ∧ W.cell? ⟨w.heap.size + 1, 2, none⟩ = some (.int .i64 c) ∧ W.cell? ⟨w.heap.size + 1, 3, none⟩ = some (.int .i64 d) ∧ W.cell? ⟨w.heap.size + 2, 0, none⟩ = some (.int .i64 u) ∧ W.cell? ⟨w.heap.size + 2, 1, none⟩ = some (.int .i64 v) ∧ W.cell? ⟨w.heap.size + 2, 2, none⟩ = some (.int .i64 k) ∧ W.cell? ⟨w.heap.size + 2, 3, none⟩ = some (.int .i64 l)) W → Below W.heap.size W w1 → (fun W => Below w.heap.size w W ∧ w.heap.size + 3 ≤ W.heap.size ∧ W.cell? ⟨w.heap.size, 0, none⟩ = some (.int .i64 x) ∧ W.cell? ⟨w.heap.size, 1, none⟩ = some (.int .i64 y) ∧ W.cell? ⟨w.heap.size, 2, none⟩ = some (.int .i64 a) ∧ W.cell? ⟨w.heap.size, 3, none⟩ = some (.int .i64 b) ∧ W.cell? ⟨w.heap.size + 1, 0, none⟩ = some (.int .i64 p) ∧ W.cell? ⟨w.heap.size + 1, 1, none⟩ = some (.int .i64 q) ∧ W.cell? ⟨w.heap.size + 1, 2, none⟩ = some (.int .i64 c) ∧ W.cell? ⟨w.heap.size + 1, 3, none⟩ = some (.int .i64 d) ∧ W.cell? ⟨w.heap.size + 2, 0, none⟩ = some (.int .i64 u) ∧ W.cell? ⟨w.heap.size + 2, 1, none⟩ = some (.int .i64 v) ∧ W.cell? ⟨w.heap.size + 2, 2, none⟩ = some (.int .i64 k) ∧ W.cell? ⟨w.heap.size + 2, 3, none⟩ = some (.int .i64 l)) w1 := by
    intro W w1 hS hg
    have hs := hg.size
    obtain ⟨s0, s1, s2, s3, s4, s5, s6, s7, s8, s9, s10, s11, s12, s13⟩ := hS
    exact ⟨Gb s0 hg, by omega, (hg.cell (by (try dsimp only); omega)).trans s2, (hg.cell (by (try dsimp only); omega)).trans s3, (hg.cell (by (try dsimp only); omega)).trans s4, (hg.cell (by (try dsimp only); omega)).trans s5, (hg.cell (by (try dsimp only); omega)).trans s6, (hg.cell (by (try dsimp only); omega)).trans s7, (hg.cell (by (try dsimp only); omega)).trans s8, (hg.cell (by (try dsimp only); omega)).trans s9, (hg.cell (by (try dsimp only); omega)).trans s10, (hg.cell (by (try dsimp only); omega)).trans s11, (hg.cell (by (try dsimp only); omega)).trans s12, (hg.cell (by (try dsimp only); omega)).trans s13⟩
  have KP3 := Lib.hid kp3
  clear kp3
  go_region_held3 (fun W => Below w.heap.size w W ∧ w.heap.size + 3 ≤ W.heap.size ∧ W.cell? ⟨w.heap.size, 0, none⟩ = some (.int .i64 x) ∧ W.cell? ⟨w.heap.size, 1, none⟩ = some (.int .i64 y) ∧ W.cell? ⟨w.heap.size, 2, none⟩ = some (.int .i64 a) ∧ W.cell? ⟨w.heap.size, 3, none⟩ = some (.int .i64 b) ∧ W.cell? ⟨w.heap.size + 1, 0, none⟩ = some (.int .i64 p) ∧ W.cell? ⟨w.heap.size + 1, 1, none⟩ = some (.int .i64 q) ∧ W.cell? ⟨w.heap.size + 1, 2, none⟩ = some (.int .i64 c) ∧ W.cell? ⟨w.heap.size + 1, 3, none⟩ = some (.int .i64 d) ∧ W.cell? ⟨w.heap.size + 2, 0, none⟩ = some (.int .i64 u) ∧ W.cell? ⟨w.heap.size + 2, 1, none⟩ = some (.int .i64 v) ∧ W.cell? ⟨w.heap.size + 2, 2, none⟩ = some (.int .i64 k) ∧ W.cell? ⟨w.heap.size + 2, 3, none⟩ = some (.int .i64 l))
    (first | exact ⟨hB0, zs, z00, z01, z02, z03, z10, z11, z12, z13, z20, z21, z22, z23⟩ | assumption | exact KP3.out _ _ (by assumption) hg)
    (first | (go_at_call 12; ((with_reducible refine (C0.out _).mono ?_)); rintro e w1 ⟨rfl, hg⟩) | (go_at_call 23; ((with_reducible refine (C1.out _).mono ?_)); rintro e w1 ⟨rfl, hg⟩) | (go_at_call 23; ((with_reducible refine (C2.out _).mono ?_)); rintro e w1 ⟨rfl, hg⟩) | (go_at_call 23; ((with_reducible refine (C3.out _).mono ?_)); rintro e w1 ⟨rfl, hg⟩) | (go_at_call 23; ((with_reducible refine (C4.out _).mono ?_)); rintro e w1 ⟨rfl, hg⟩) | (go_at_call 23; ((with_reducible refine (C5.out _).mono ?_)); rintro e w1 ⟨rfl, hg⟩) | (go_at_call 23; ((with_reducible refine (C6.out _).mono ?_)); rintro e w1 ⟨rfl, hg⟩))
  obtain ⟨hB1, hs1, f00, f01, f02, f03, f10, f11, f12, f13, f20, f21, f22, f23⟩ : Below w.heap.size w _ ∧ _ := by assumption
  go_wp2_with (first | (go_at_call 23; ((with_reducible refine (C1.out _).mono ?_)); rintro e wm ⟨rfl, hg⟩; have hs := hg.size; have hB2 := Gb hB1 hg; have g00 := (hg.cell (p := ⟨w.heap.size, 0, none⟩) (by dsimp only; omega)).trans f00; have g01 := (hg.cell (p := ⟨w.heap.size, 1, none⟩) (by dsimp only; omega)).trans f01; have g02 := (hg.cell (p := ⟨w.heap.size, 2, none⟩) (by dsimp only; omega)).trans f02; have g03 := (hg.cell (p := ⟨w.heap.size, 3, none⟩) (by dsimp only; omega)).trans f03; have g10 := (hg.cell (p := ⟨w.heap.size + 1, 0, none⟩) (by dsimp only; omega)).trans f10; have g11 := (hg.cell (p := ⟨w.heap.size + 1, 1, none⟩) (by dsimp only; omega)).trans f11; have g12 := (hg.cell (p := ⟨w.heap.size + 1, 2, none⟩) (by dsimp only; omega)).trans f12; have g13 := (hg.cell (p := ⟨w.heap.size + 1, 3, none⟩) (by dsimp only; omega)).trans f13; have g20 := (hg.cell (p := ⟨w.heap.size + 2, 0, none⟩) (by dsimp only; omega)).trans f20; have g21 := (hg.cell (p := ⟨w.heap.size + 2, 1, none⟩) (by dsimp only; omega)).trans f21; have g22 := (hg.cell (p := ⟨w.heap.size + 2, 2, none⟩) (by dsimp only; omega)).trans f22; have g23 := (hg.cell (p := ⟨w.heap.size + 2, 3, none⟩) (by dsimp only; omega)).trans f23))
  have hB4 : Below w.heap.size w (wm.alloc (.cells #[.int .i64 M.x, .int .i64 M.y, .int .i64 M.w, .int .i64 M.h] 23)).drew := (hB2.alloc hB2.size _).drew
  have ys : w.heap.size + 3 ≤ wm.heap.size := by omega
  have ys2 : wm.heap.size + 1 ≤ (wm.alloc (.cells #[.int .i64 M.x, .int .i64 M.y, .int .i64 M.w, .int .i64 M.h] 23)).drew.heap.size := by simp
  have y00 : (wm.alloc (.cells #[.int .i64 M.x, .int .i64 M.y, .int .i64 M.w, .int .i64 M.h] 23)).drew.cell? ⟨w.heap.size, 0, none⟩ = some (.int .i64 x) := (World.cell?_alloc_past _ _ _ (by (try dsimp only); omega)).trans g00
  have y01 : (wm.alloc (.cells #[.int .i64 M.x, .int .i64 M.y, .int .i64 M.w, .int .i64 M.h] 23)).drew.cell? ⟨w.heap.size, 1, none⟩ = some (.int .i64 y) := (World.cell?_alloc_past _ _ _ (by (try dsimp only); omega)).trans g01
  have y02 : (wm.alloc (.cells #[.int .i64 M.x, .int .i64 M.y, .int .i64 M.w, .int .i64 M.h] 23)).drew.cell? ⟨w.heap.size, 2, none⟩ = some (.int .i64 a) := (World.cell?_alloc_past _ _ _ (by (try dsimp only); omega)).trans g02
  have y03 : (wm.alloc (.cells #[.int .i64 M.x, .int .i64 M.y, .int .i64 M.w, .int .i64 M.h] 23)).drew.cell? ⟨w.heap.size, 3, none⟩ = some (.int .i64 b) := (World.cell?_alloc_past _ _ _ (by (try dsimp only); omega)).trans g03
  have y10 : (wm.alloc (.cells #[.int .i64 M.x, .int .i64 M.y, .int .i64 M.w, .int .i64 M.h] 23)).drew.cell? ⟨w.heap.size + 1, 0, none⟩ = some (.int .i64 p) := (World.cell?_alloc_past _ _ _ (by (try dsimp only); omega)).trans g10
  have y11 : (wm.alloc (.cells #[.int .i64 M.x, .int .i64 M.y, .int .i64 M.w, .int .i64 M.h] 23)).drew.cell? ⟨w.heap.size + 1, 1, none⟩ = some (.int .i64 q) := (World.cell?_alloc_past _ _ _ (by (try dsimp only); omega)).trans g11
  have y12 : (wm.alloc (.cells #[.int .i64 M.x, .int .i64 M.y, .int .i64 M.w, .int .i64 M.h] 23)).drew.cell? ⟨w.heap.size + 1, 2, none⟩ = some (.int .i64 c) := (World.cell?_alloc_past _ _ _ (by (try dsimp only); omega)).trans g12
  have y13 : (wm.alloc (.cells #[.int .i64 M.x, .int .i64 M.y, .int .i64 M.w, .int .i64 M.h] 23)).drew.cell? ⟨w.heap.size + 1, 3, none⟩ = some (.int .i64 d) := (World.cell?_alloc_past _ _ _ (by (try dsimp only); omega)).trans g13
  have y20 : (wm.alloc (.cells #[.int .i64 M.x, .int .i64 M.y, .int .i64 M.w, .int .i64 M.h] 23)).drew.cell? ⟨w.heap.size + 2, 0, none⟩ = some (.int .i64 u) := (World.cell?_alloc_past _ _ _ (by (try dsimp only); omega)).trans g20
  have y21 : (wm.alloc (.cells #[.int .i64 M.x, .int .i64 M.y, .int .i64 M.w, .int .i64 M.h] 23)).drew.cell? ⟨w.heap.size + 2, 1, none⟩ = some (.int .i64 v) := (World.cell?_alloc_past _ _ _ (by (try dsimp only); omega)).trans g21
  have y22 : (wm.alloc (.cells #[.int .i64 M.x, .int .i64 M.y, .int .i64 M.w, .int .i64 M.h] 23)).drew.cell? ⟨w.heap.size + 2, 2, none⟩ = some (.int .i64 k) := (World.cell?_alloc_past _ _ _ (by (try dsimp only); omega)).trans g22
  have y23 : (wm.alloc (.cells #[.int .i64 M.x, .int .i64 M.y, .int .i64 M.w, .int .i64 M.h] 23)).drew.cell? ⟨w.heap.size + 2, 3, none⟩ = some (.int .i64 l) := (World.cell?_alloc_past _ _ _ (by (try dsimp only); omega)).trans g23
  have ym0 : (wm.alloc (.cells #[.int .i64 M.x, .int .i64 M.y, .int .i64 M.w, .int .i64 M.h] 23)).drew.cell? ⟨wm.heap.size, 0, none⟩ = some (.int .i64 M.x) := (World.cell?_alloc_at _ _ _ _ rfl).trans rfl
  have ym1 : (wm.alloc (.cells #[.int .i64 M.x, .int .i64 M.y, .int .i64 M.w, .int .i64 M.h] 23)).drew.cell? ⟨wm.heap.size, 1, none⟩ = some (.int .i64 M.y) := (World.cell?_alloc_at _ _ _ _ rfl).trans rfl
  have ym2 : (wm.alloc (.cells #[.int .i64 M.x, .int .i64 M.y, .int .i64 M.w, .int .i64 M.h] 23)).drew.cell? ⟨wm.heap.size, 2, none⟩ = some (.int .i64 M.w) := (World.cell?_alloc_at _ _ _ _ rfl).trans rfl
  have ym3 : (wm.alloc (.cells #[.int .i64 M.x, .int .i64 M.y, .int .i64 M.w, .int .i64 M.h] 23)).drew.cell? ⟨wm.heap.size, 3, none⟩ = some (.int .i64 M.h) := (World.cell?_alloc_at _ _ _ _ rfl).trans rfl
  have kp4 : ∀ W w1 : World, (fun W => Below w.heap.size w W ∧ w.heap.size + 3 ≤ wm.heap.size ∧ wm.heap.size + 1 ≤ W.heap.size ∧ W.cell? ⟨w.heap.size, 0, none⟩ = some (.int .i64 x) ∧ W.cell? ⟨w.heap.size, 1, none⟩ = some (.int .i64 y) ∧ W.cell? ⟨w.heap.size, 2, none⟩ = some (.int .i64 a) ∧ W.cell? ⟨w.heap.size, 3, none⟩ = some (.int .i64 b) ∧ W.cell? ⟨w.heap.size + 1, 0, none⟩ = some (.int .i64 p) ∧ W.cell? ⟨w.heap.size + 1, 1, none⟩ = some (.int .i64 q) ∧ W.cell? ⟨w.heap.size + 1, 2, none⟩ = some (.int .i64 c) ∧ W.cell? ⟨w.heap.size + 1, 3, none⟩ = some (.int .i64 d) ∧ W.cell? ⟨w.heap.size + 2, 0, none⟩ = some (.int .i64 u) ∧ W.cell? ⟨w.heap.size + 2, 1, none⟩ = some (.int .i64 v) ∧ W.cell? ⟨w.heap.size + 2, 2, none⟩ = some (.int .i64 k) ∧ W.cell? ⟨w.heap.size + 2, 3, none⟩ = some (.int .i64 l) ∧ W.cell? ⟨wm.heap.size, 0, none⟩ = some (.int .i64 M.x) ∧ W.cell? ⟨wm.heap.size, 1, none⟩ = some (.int .i64 M.y) ∧ W.cell? ⟨wm.heap.size, 2, none⟩ = some (.int .i64 M.w) ∧ W.cell? ⟨wm.heap.size, 3, none⟩ = some (.int .i64 M.h)) W → Below W.heap.size W w1 → (fun W => Below w.heap.size w W ∧ w.heap.size + 3 ≤ wm.heap.size ∧ wm.heap.size + 1 ≤ W.heap.size ∧ W.cell? ⟨w.heap.size, 0, none⟩ = some (.int .i64 x) ∧ W.cell? ⟨w.heap.size, 1, none⟩ = some (.int .i64 y) ∧ W.cell? ⟨w.heap.size, 2, none⟩ = some (.int .i64 a) ∧ W.cell? ⟨w.heap.size, 3, none⟩ = some (.int .i64 b) ∧ W.cell? ⟨w.heap.size + 1, 0, none⟩ = some (.int .i64 p) ∧ W.cell? ⟨w.heap.size + 1, 1, none⟩ = some (.int .i64 q) ∧ W.cell? ⟨w.heap.size + 1, 2, none⟩ = some (.int .i64 c) ∧ W.cell? ⟨w.heap.size + 1, 3, none⟩ = some (.int .i64 d) ∧ W.cell? ⟨w.heap.size + 2, 0, none⟩ = some (.int .i64 u) ∧ W.cell? ⟨w.heap.size + 2, 1, none⟩ = some (.int .i64 v) ∧ W.cell? ⟨w.heap.size + 2, 2, none⟩ = some (.int .i64 k) ∧ W.cell? ⟨w.heap.size + 2, 3, none⟩ = some (.int .i64 l) ∧ W.cell? ⟨wm.heap.size, 0, none⟩ = some (.int .i64 M.x) ∧ W.cell? ⟨wm.heap.size, 1, none⟩ = some (.int .i64 M.y) ∧ W.cell? ⟨wm.heap.size, 2, none⟩ = some (.int .i64 M.w) ∧ W.cell? ⟨wm.heap.size, 3, none⟩ = some (.int .i64 M.h)) w1 := by
    intro W w1 hS hg
    have hs := hg.size
    obtain ⟨s0, s1, s2, s3, s4, s5, s6, s7, s8, s9, s10, s11, s12, s13, s14, s15, s16, s17, s18⟩ := hS
    exact ⟨Gb s0 hg, by omega, by omega, (hg.cell (by (try dsimp only); omega)).trans s3, (hg.cell (by (try dsimp only); omega)).trans s4, (hg.cell (by (try dsimp only); omega)).trans s5, (hg.cell (by (try dsimp only); omega)).trans s6, (hg.cell (by (try dsimp only); omega)).trans s7, (hg.cell (by (try dsimp only); omega)).trans s8, (hg.cell (by (try dsimp only); omega)).trans s9, (hg.cell (by (try dsimp only); omega)).trans s10, (hg.cell (by (try dsimp only); omega)).trans s11, (hg.cell (by (try dsimp only); omega)).trans s12, (hg.cell (by (try dsimp only); omega)).trans s13, (hg.cell (by (try dsimp only); omega)).trans s14, (hg.cell (by (try dsimp only); omega)).trans s15, (hg.cell (by (try dsimp only); omega)).trans s16, (hg.cell (by (try dsimp only); omega)).trans s17, (hg.cell (by (try dsimp only); omega)).trans s18⟩
  have KP4 := Lib.hid kp4
  clear kp4
  clear hB1 hs1 hB2 f00 g00 f01 g01 f02 g02 f03 g03 f10 g10 f11 g11 f12 g12 f13 g13 f20 g20 f21 g21 f22 g22 f23 g23 z00 z01 z02 z03 z10 z11 z12 z13 z20 z21 z22 z23
  go_region_held3 (fun W => Below w.heap.size w W ∧ w.heap.size + 3 ≤ wm.heap.size ∧ wm.heap.size + 1 ≤ W.heap.size ∧ W.cell? ⟨w.heap.size, 0, none⟩ = some (.int .i64 x) ∧ W.cell? ⟨w.heap.size, 1, none⟩ = some (.int .i64 y) ∧ W.cell? ⟨w.heap.size, 2, none⟩ = some (.int .i64 a) ∧ W.cell? ⟨w.heap.size, 3, none⟩ = some (.int .i64 b) ∧ W.cell? ⟨w.heap.size + 1, 0, none⟩ = some (.int .i64 p) ∧ W.cell? ⟨w.heap.size + 1, 1, none⟩ = some (.int .i64 q) ∧ W.cell? ⟨w.heap.size + 1, 2, none⟩ = some (.int .i64 c) ∧ W.cell? ⟨w.heap.size + 1, 3, none⟩ = some (.int .i64 d) ∧ W.cell? ⟨w.heap.size + 2, 0, none⟩ = some (.int .i64 u) ∧ W.cell? ⟨w.heap.size + 2, 1, none⟩ = some (.int .i64 v) ∧ W.cell? ⟨w.heap.size + 2, 2, none⟩ = some (.int .i64 k) ∧ W.cell? ⟨w.heap.size + 2, 3, none⟩ = some (.int .i64 l) ∧ W.cell? ⟨wm.heap.size, 0, none⟩ = some (.int .i64 M.x) ∧ W.cell? ⟨wm.heap.size, 1, none⟩ = some (.int .i64 M.y) ∧ W.cell? ⟨wm.heap.size, 2, none⟩ = some (.int .i64 M.w) ∧ W.cell? ⟨wm.heap.size, 3, none⟩ = some (.int .i64 M.h))
    (first | exact ⟨hB4, ys, ys2, y00, y01, y02, y03, y10, y11, y12, y13, y20, y21, y22, y23, ym0, ym1, ym2, ym3⟩ | assumption | exact KP4.out _ _ (by assumption) hg)
    (first | (go_at_call 23; ((with_reducible refine (C6.out _).mono ?_)); rintro e w1 ⟨rfl, hg⟩) | (go_at_call 21; ((with_reducible refine (C7.out _).mono ?_)); rintro e w1 ⟨rfl, hg⟩) | (go_at_call 21; ((with_reducible refine (C8.out _).mono ?_)); rintro e w1 ⟨rfl, hg⟩))
  obtain ⟨hB5, hs5, hs6, h00, h01, h02, h03, h10, h11, h12, h13, h20, h21, h22, h23, hm0, hm1, hm2, hm3⟩ : Below w.heap.size w _ ∧ _ := by assumption
  cases h9 : Rc.emp ⟨x, y, a, b⟩
  · rw [h9] at c9
    have D10 := e10 h9
    have D12 := e12 h9
    have c10 : ∀ w, Calls Try.prog 23 #[.agg #[.int .i64 x, .int .i64 y, .int .i64 a, .int .i64 b], .agg #[.int .i64 x, .int .i64 y, .int .i64 a, .int .i64 b]] w fun e w' => e = .returned (.agg #[.int .i64 x, .int .i64 y, .int .i64 a, .int .i64 b]) ∧ Below w.heap.size w w' := fun w => by have h := qMeet x y a b x y a b w hx hy hx hy; rwa [D10] at h
    have c12 : ∀ w, Calls Try.prog 23 #[.agg #[.int .i64 x, .int .i64 y, .int .i64 a, .int .i64 b], .agg #[.int .i64 J.x, .int .i64 J.y, .int .i64 J.w, .int .i64 J.h]] w fun e w' => e = .returned (.agg #[.int .i64 x, .int .i64 y, .int .i64 a, .int .i64 b]) ∧ Below w.heap.size w w' := fun w => by have h := qMeet x y a b J.x J.y J.w J.h w hx hy bJ.1 bJ.2; rwa [show Rc.meet ⟨x, y, a, b⟩ ⟨J.x, J.y, J.w, J.h⟩ = ⟨x, y, a, b⟩ from D12] at h
    have C9 := Lib.hid c9
    have C10 := Lib.hid c10
    have C12 := Lib.hid c12
    clear c9 c10 c12 D10 D12 e10 e12
    go_wp2_with fail
    go_region_held3 (fun W => Below w.heap.size w W ∧ w.heap.size + 3 ≤ W.heap.size ∧ W.cell? ⟨w.heap.size, 0, none⟩ = some (.int .i64 x) ∧ W.cell? ⟨w.heap.size, 1, none⟩ = some (.int .i64 y) ∧ W.cell? ⟨w.heap.size, 2, none⟩ = some (.int .i64 a) ∧ W.cell? ⟨w.heap.size, 3, none⟩ = some (.int .i64 b) ∧ W.cell? ⟨w.heap.size + 1, 0, none⟩ = some (.int .i64 p) ∧ W.cell? ⟨w.heap.size + 1, 1, none⟩ = some (.int .i64 q) ∧ W.cell? ⟨w.heap.size + 1, 2, none⟩ = some (.int .i64 c) ∧ W.cell? ⟨w.heap.size + 1, 3, none⟩ = some (.int .i64 d) ∧ W.cell? ⟨w.heap.size + 2, 0, none⟩ = some (.int .i64 u) ∧ W.cell? ⟨w.heap.size + 2, 1, none⟩ = some (.int .i64 v) ∧ W.cell? ⟨w.heap.size + 2, 2, none⟩ = some (.int .i64 k) ∧ W.cell? ⟨w.heap.size + 2, 3, none⟩ = some (.int .i64 l))
      (first | exact ⟨hB5.drew, Nat.le_trans hs5 (Nat.le_trans (Nat.le_succ _) hs6), h00, h01, h02, h03, h10, h11, h12, h13, h20, h21, h22, h23⟩ | assumption | exact KP3.out _ _ (by assumption) hg)
      (first | (go_at_call 15; ((with_reducible refine (C9.out _).mono ?_)); rintro e w1 ⟨rfl, hg⟩) | (go_at_call 23; ((with_reducible refine (C10.out _).mono ?_)); rintro e w1 ⟨rfl, hg⟩) | (go_at_call 25; ((with_reducible refine (C11.out _).mono ?_)); rintro e w1 ⟨rfl, hg⟩) | (go_at_call 23; ((with_reducible refine (C12.out _).mono ?_)); rintro e w1 ⟨rfl, hg⟩))
    go_wp2
    go_ret
    exact ⟨by simp, by first | assumption | exact And.left (by assumption)⟩
  · rw [h9] at c9
    have C9 := Lib.hid c9
    clear c9 e10 e12
    go_wp2_with fail
    refine wp_region_held_drew (S := (fun W => Below w.heap.size w W ∧ w.heap.size + 3 ≤ W.heap.size ∧ W.cell? ⟨w.heap.size, 0, none⟩ = some (.int .i64 x) ∧ W.cell? ⟨w.heap.size, 1, none⟩ = some (.int .i64 y) ∧ W.cell? ⟨w.heap.size, 2, none⟩ = some (.int .i64 a) ∧ W.cell? ⟨w.heap.size, 3, none⟩ = some (.int .i64 b) ∧ W.cell? ⟨w.heap.size + 1, 0, none⟩ = some (.int .i64 p) ∧ W.cell? ⟨w.heap.size + 1, 1, none⟩ = some (.int .i64 q) ∧ W.cell? ⟨w.heap.size + 1, 2, none⟩ = some (.int .i64 c) ∧ W.cell? ⟨w.heap.size + 1, 3, none⟩ = some (.int .i64 d) ∧ W.cell? ⟨w.heap.size + 2, 0, none⟩ = some (.int .i64 u) ∧ W.cell? ⟨w.heap.size + 2, 1, none⟩ = some (.int .i64 v) ∧ W.cell? ⟨w.heap.size + 2, 2, none⟩ = some (.int .i64 k) ∧ W.cell? ⟨w.heap.size + 2, 3, none⟩ = some (.int .i64 l))) (by kernel_rfl) ?_ (fun hHeld => ?_)
    · exact ⟨hB5.drew, Nat.le_trans hs5 (Nat.le_trans (Nat.le_succ _) hs6), h00, h01, h02, h03, h10, h11, h12, h13, h20, h21, h22, h23⟩
    refine held_take (i := 0) (some 52) (.agg #[.int .i64 x, .int .i64 y, .int .i64 a, .int .i64 b]) rfl rfl (by kernel_rfl) (by kernel_rfl) (by kernel_rfl) (fun _ _ _ h => h) (by rfl) ?_ (by assumption) ?_
    · intro w hSw
      (try dsimp only at hSw)
      go_simp
    try simp only [Act.put, List.setIfInBounds_toArray, List.set_cons_zero, List.set_cons_succ]
    refine wpAnyH_ready (rs := [1]) (by kernel_rfl) (by simp) ?_
    refine AllReadyH.cons (o := _) rfl (fun K hK => ?_) AllReadyH.nil
    go_simp
    go_at_call 15
    (with_reducible refine (C9.out _).mono ?_)
    rintro e w1 ⟨rfl, hg⟩
    refine hK.out _ _ ?_ (fun hHeld2 => ?_)
    · exact KP3.out _ _ (by assumption) hg
    clear hK K
    try simp only [Act.put, List.setIfInBounds_toArray, List.set_cons_zero, List.set_cons_succ]
    refine held_take (i := 2) (some 54) (.bool true) rfl rfl (by kernel_rfl) (by kernel_rfl) (by kernel_rfl) (fun _ _ _ h => h) (by rfl) ?_ (by assumption) ?_
    · intro w hSw
      (try dsimp only at hSw)
      go_simp
    try simp only [Act.put, List.setIfInBounds_toArray, List.set_cons_zero, List.set_cons_succ]
    refine held_skip (i := 3) (some 55) rfl rfl (by kernel_rfl) (by kernel_rfl) (by kernel_rfl) (fun _ _ _ h => h) (by rfl) (by assumption) ?_
    try simp only [Act.put, List.setIfInBounds_toArray, List.set_cons_zero, List.set_cons_succ]
    refine held_skip (i := 4) (some 56) rfl rfl (by kernel_rfl) (by kernel_rfl) (by kernel_rfl) (fun _ _ _ h => h) (by rfl) (by assumption) ?_
    try simp only [Act.put, List.setIfInBounds_toArray, List.set_cons_zero, List.set_cons_succ]
    refine held_skip (i := 5) (some 57) rfl rfl (by kernel_rfl) (by kernel_rfl) (by kernel_rfl) (fun _ _ _ h => h) (by rfl) (by assumption) ?_
    try simp only [Act.put, List.setIfInBounds_toArray, List.set_cons_zero, List.set_cons_succ]
    refine held_skip (i := 6) (some 58) rfl rfl (by kernel_rfl) (by kernel_rfl) (by kernel_rfl) (fun _ _ _ h => h) (by rfl) (by assumption) ?_
    try simp only [Act.put, List.setIfInBounds_toArray, List.set_cons_zero, List.set_cons_succ]
    refine held_skip (i := 7) (some 59) rfl rfl (by kernel_rfl) (by kernel_rfl) (by kernel_rfl) (fun _ _ _ h => h) (by rfl) (by assumption) ?_
    try simp only [Act.put, List.setIfInBounds_toArray, List.set_cons_zero, List.set_cons_succ]
    refine held_skip (i := 8) (some 60) rfl rfl (by kernel_rfl) (by kernel_rfl) (by kernel_rfl) (fun _ _ _ h => h) (by rfl) (by assumption) ?_
    try simp only [Act.put, List.setIfInBounds_toArray, List.set_cons_zero, List.set_cons_succ]
    refine held_skip (i := 9) (some 61) rfl rfl (by kernel_rfl) (by kernel_rfl) (by kernel_rfl) (fun _ _ _ h => h) (by rfl) (by assumption) ?_
    try simp only [Act.put, List.setIfInBounds_toArray, List.set_cons_zero, List.set_cons_succ]
    refine held_skip (i := 10) (some 62) rfl rfl (by kernel_rfl) (by kernel_rfl) (by kernel_rfl) (fun _ _ _ h => h) (by rfl) (by assumption) ?_
    try simp only [Act.put, List.setIfInBounds_toArray, List.set_cons_zero, List.set_cons_succ]
    refine held_skip (i := 11) (some 63) rfl rfl (by kernel_rfl) (by kernel_rfl) (by kernel_rfl) (fun _ _ _ h => h) (by rfl) (by assumption) ?_
    try simp only [Act.put, List.setIfInBounds_toArray, List.set_cons_zero, List.set_cons_succ]
    refine held_skip (i := 12) (some 64) rfl rfl (by kernel_rfl) (by kernel_rfl) (by kernel_rfl) (fun _ _ _ h => h) (by rfl) (by assumption) ?_
    try simp only [Act.put, List.setIfInBounds_toArray, List.set_cons_zero, List.set_cons_succ]
    refine held_skip (i := 13) (some 65) rfl rfl (by kernel_rfl) (by kernel_rfl) (by kernel_rfl) (fun _ _ _ h => h) (by rfl) (by assumption) ?_
    try simp only [Act.put, List.setIfInBounds_toArray, List.set_cons_zero, List.set_cons_succ]
    refine held_skip (i := 14) (some 66) rfl rfl (by kernel_rfl) (by kernel_rfl) (by kernel_rfl) (fun _ _ _ h => h) (by rfl) (by assumption) ?_
    try simp only [Act.put, List.setIfInBounds_toArray, List.set_cons_zero, List.set_cons_succ]
    refine held_skip (i := 15) (some 67) rfl rfl (by kernel_rfl) (by kernel_rfl) (by kernel_rfl) (fun _ _ _ h => h) (by rfl) (by assumption) ?_
    try simp only [Act.put, List.setIfInBounds_toArray, List.set_cons_zero, List.set_cons_succ]
    refine held_skip (i := 16) (some 68) rfl rfl (by kernel_rfl) (by kernel_rfl) (by kernel_rfl) (fun _ _ _ h => h) (by rfl) (by assumption) ?_
    try simp only [Act.put, List.setIfInBounds_toArray, List.set_cons_zero, List.set_cons_succ]
    refine held_take (i := 17) (some 69) (.bool true) rfl rfl (by kernel_rfl) (by kernel_rfl) (by kernel_rfl) (fun _ _ _ h => h) (by rfl) ?_ (by assumption) ?_
    · intro w hSw
      (try dsimp only at hSw)
      go_simp
    try simp only [Act.put, List.setIfInBounds_toArray, List.set_cons_zero, List.set_cons_succ]
    refine held_take (i := 18) (some 6) (.bool true) rfl rfl (by kernel_rfl) (by kernel_rfl) (by kernel_rfl) (fun _ _ _ h => h) (by rfl) ?_ (by assumption) ?_
    · intro w hSw
      (try dsimp only at hSw)
      go_simp
    try simp only [Act.put, List.setIfInBounds_toArray, List.set_cons_zero, List.set_cons_succ]
    refine wpAnyH_done (by kernel_rfl) ?_ _
    go_wp2
    go_ret
    exact ⟨by simp, by first | assumption | exact And.left (by assumption)⟩
end Go.Proofs.Ytbkhfebopmeanaa
