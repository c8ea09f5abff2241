import Derived.Test.YtbkhfebopmeanaaProg
import Derived.WalkKit
import Derived.WalkLawsBesides
import Derived.Outline
import Derived.Lib.Walk
import Derived.Deep.QuietTactic
import Derived.BigQuiet
import Derived.RowKit3
import Derived.Deep.LoopGhost
import Derived.Great.Walk
import Derived.Great.BuildSlice
import Derived.Laws.Rows
import Derived.Laws.Tables
import Derived.Laws.CopyOwn
import Derived.Lib.Hide
import Derived.Handy
import Derived.Test.YtbkhfebopmeanaaV2
import Derived.Test.YtbkhfebopmeanaaV3
import Derived.Test.YtbkhfebopmeanaaV4
import Derived.Test.YtbkhfebopmeanaaPJ
namespace Go.Proofs.Ytbkhfebopmeanaa
open Go.RowKit
set_option maxHeartbeats 400000
set_option linter.unusedVariables false
theorem rec4.one {k j : Nat} {W : World} {x y a b : Int} (h : rec4 W k x y a b) (v : Value) (hj : j ≠ k) : rec4 (W.setCell ⟨j, 0, none⟩ v) k x y a b := by
  obtain ⟨⟨h0, h1, h2, h3⟩, f0, f1, f2, f3⟩ := h
  unfold rec4
  simp [go_sem, h0, h1, h2, h3, f0, f1, f2, f3, hj, Ne.symm hj]
/-- what the difference holds while it is built: its first argument, the intersection, the list. -/
def Mst (w W : World) (B : Nat) (x y a b : Int) (m : Nat) (M : Rc) (v : Value) (L : List Rc) : Prop :=
  Below w.heap.size w W ∧ B ≤ W.heap.size ∧ w.heap.size + 1 + 1 < B ∧ m < B ∧ w.heap.size + 1 + 1 < m ∧ rec4 W w.heap.size x y a b ∧ rec4 W m M.x M.y M.w M.h ∧
  W.cell? ⟨w.heap.size + 1 + 1, 0, none⟩ = some v ∧ W.frozen? ⟨w.heap.size + 1 + 1, 0, none⟩ = false ∧ W.ownsRow B 23 4 v L.length (cellsR L)
theorem Mst.start {w W : World} {x y a b : Int} {M : Rc} (G : Gr w W) (h : rec4 W w.heap.size x y a b) (hv : W.cell? ⟨w.heap.size + 1 + 1, 0, none⟩ = some (.slice none 0 0))
    (hf : W.frozen? ⟨w.heap.size + 1 + 1, 0, none⟩ = false) (hs : w.heap.size + 1 + 1 < W.heap.size) :
    Mst w (W.alloc (.cells #[.int .i64 M.x, .int .i64 M.y, .int .i64 M.w, .int .i64 M.h] 23)) (W.heap.size + 1) x y a b W.heap.size M (.slice none 0 0) [] :=
  ⟨(G.alloc _ _).1, by simp, by omega, by omega, by omega, h.alloc _ (by omega), rec4.new _ _ _ _ _ _, (((Gr.refl W).alloc _ _).1.cell (p := ⟨w.heap.size + 1 + 1, 0, none⟩) hs).trans hv,
    (((Gr.refl W).alloc _ _).1.frozen (p := ⟨w.heap.size + 1 + 1, 0, none⟩) hs).trans hf, World.ownsRow_nil _ _ _ _⟩
theorem Mst.gr {w W W' : World} {B m : Nat} {x y a b : Int} {M : Rc} {v : Value} {L : List Rc} (h : Mst w W B x y a b m M v L) (hg : Gr W W') : Mst w W' B x y a b m M v L := by
  obtain ⟨h1, h2, h3, h4, h5, h6, h7, h8, h9, h10⟩ := h
  have hs := hg.1.size
  exact ⟨h1.trans (hg.1.mono h1.size), by omega, h3, h4, h5, h6.gr hg (by omega), h7.gr hg (by omega), (hg.1.cell (p := ⟨w.heap.size + 1 + 1, 0, none⟩) (by dsimp only; omega)).trans h8,
    (hg.1.frozen (p := ⟨w.heap.size + 1 + 1, 0, none⟩) (by dsimp only; omega)).trans h9, ownsRow_below h10 hg.1⟩
theorem Mst.put {w W w3 : World} {B m : Nat} {x y a b : Int} {M : Rc} {v v' : Value} {L : List Rc} (r : Rc) (h : Mst w W B x y a b m M v L) (hb : Below B W w3)
    (ho : w3.ownsRow B 23 4 v' (L.length + 1) (cellsR L ++ [.int .i64 r.x, .int .i64 r.y, .int .i64 r.w, .int .i64 r.h])) : Mst w (w3.setCell ⟨w.heap.size + 1 + 1, 0, none⟩ v') B x y a b m M v' (L ++ [r]) := by
  obtain ⟨h1, h2, h3, h4, h5, h6, h7, h8, h9, h10⟩ := h
  have hs := hb.size
  have k8 := (hb.cell (p := ⟨w.heap.size + 1 + 1, 0, none⟩) (by dsimp only; omega)).trans h8
  have k9 := (hb.frozen (p := ⟨w.heap.size + 1 + 1, 0, none⟩) (by dsimp only; omega)).trans h9
  have e2 : (L ++ [r]).length = L.length + 1 := by simp
  have e3 : cellsR (L ++ [r]) = cellsR L ++ [.int .i64 r.x, .int .i64 r.y, .int .i64 r.w, .int .i64 r.h] := by rw [cellsR_append]; rfl
  refine ⟨(h1.trans (hb.mono (by omega))).setCell (by dsimp only; omega) _, by simp; omega, h3, h4, h5, (h6.below hb (by omega)).one _ (by omega), (h7.below hb (by omega)).one _ (by omega), ?_, ?_, ?_⟩
  · simp [go_sem, k8]
  · simp [go_sem, k9]
  · rw [e2, e3]
    exact ownsRow_setCell_below ho (by dsimp only; omega) _
/-- a list with one rectangle more, where it has pixels. -/
def add (L : List Rc) (r : Rc) : List Rc := if r.emp then L else L ++ [r]
theorem p47_st (r : Rc) {w W : World} {B m : Nat} {x y a b : Int} {M : Rc} {v : Value} {L : List Rc} (h : Mst w W B x y a b m M v L) (hL : L.length ≤ 1048576) :
    Calls Try.prog 47 #[.agg #[.int .i64 r.x, .int .i64 r.y, .int .i64 r.w, .int .i64 r.h], .pointer (some ⟨w.heap.size + 1 + 1, 0, none⟩)] W fun e w' => e = .returned (.tuple #[]) ∧ ∃ v', Mst w w' B x y a b m M v' (add L r) := by
  unfold add
  cases hr : r.emp
  · have h' := h
    obtain ⟨h1, h2, h3, h4, h5, h6, h7, h8, h9, h10⟩ := h'
    refine (p47_hit r.x r.y r.w r.h _ B _ v (cellsR L) W hr h3 h2 hL h8 h9 h10).mono ?_
    rintro e w' ⟨rfl, v', w3, hb, rfl, ho⟩
    exact ⟨rfl, v', h.put r hb ho⟩
  · refine (p47_miss r.x r.y r.w r.h _ W hr).mono ?_
    rintro e w' ⟨rfl, hg⟩
    exact ⟨rfl, v, h.gr hg⟩
theorem add_len (L : List Rc) (r : Rc) {n : Nat} (h : L.length ≤ n) : (add L r).length ≤ n + 1 := by
  unfold add
  split
  · omega
  · simp; omega
theorem minus_emp (r s : Rc) (h : (r.meet s).emp = true) : r.minus s = add [] r := by
  unfold Rc.minus add
  rw [h]
  cases r.emp <;> rfl
theorem meet_sub (r s : Rc) (h : (r.meet s).emp = false) : r.emp = false ∧ r.x ≤ (r.meet s).x ∧ r.y ≤ (r.meet s).y ∧ (r.meet s).x + (r.meet s).w ≤ r.x + r.w ∧ (r.meet s).y + (r.meet s).h ≤ r.y + r.h ∧ 1 ≤ (r.meet s).w ∧ 1 ≤ (r.meet s).h := by
  have br := sol_bd r
  have bs := sol_bd s
  have e := meet_btw r s
  cases hr : r.emp
  · rw [(sol_x0 r hr).1] at e br
    refine ⟨rfl, ?_⟩
    generalize s.sol = t at *
    by_cases k : min (min (r.x + r.w) (t.x + t.w)) 1048576 ≤ max (max r.x t.x) (-1048576) ∨ min (min (r.y + r.h) (t.y + t.h)) 1048576 ≤ max (max r.y t.y) (-1048576)
    · rw [btw_none k] at e
      rw [← e] at h
      exact absurd h (by decide)
    · rw [btw_some (by omega) (by omega)] at e
      rw [← e]
      dsimp only
      omega
  · unfold Rc.meet at h
    rw [hr] at h
    simp only [Bool.true_or, if_true] at h
    exact absurd h (by decide)
theorem minus_ne (r s : Rc) (h : (r.meet s).emp = false) : r.minus s = add (add (add (add [] (btw r.x r.y (r.x + r.w) (r.meet s).y)) (btw r.x (r.meet s).y (r.meet s).x ((r.meet s).y + (r.meet s).h)))
    (btw ((r.meet s).x + (r.meet s).w) (r.meet s).y (r.x + r.w) ((r.meet s).y + (r.meet s).h))) (btw r.x ((r.meet s).y + (r.meet s).h) (r.x + r.w) (r.y + r.h)) := by
  have hs := meet_sub r s h
  have br := sol_bd r
  obtain ⟨e0, e1, e2, e3, e4⟩ := sol_x0 r hs.1
  obtain ⟨g0, g1, g2, g3, g4⟩ := sol_x0 _ h
  rw [e0] at br
  unfold Rc.minus
  rw [hs.1, h]
  unfold pieces
  rw [e1, e2, e3, e4, g1, g2, g3, g4]
  generalize r.meet s = m at *
  have q1 : btw r.x r.y (r.x + r.w) m.y = rcOf r.x (r.x + r.w - 1) r.y (m.y - 1) := by unfold btw wrl; congr 1 <;> omega
  have q2 : btw r.x m.y m.x (m.y + m.h) = rcOf r.x (m.x - 1) m.y (m.y + m.h - 1) := by unfold btw wrl; congr 1 <;> omega
  have q3 : btw (m.x + m.w) m.y (r.x + r.w) (m.y + m.h) = rcOf (m.x + m.w - 1 + 1) (r.x + r.w - 1) m.y (m.y + m.h - 1) := by unfold btw wrl; congr 1 <;> omega
  have q4 : btw r.x (m.y + m.h) (r.x + r.w) (r.y + r.h) = rcOf r.x (r.x + r.w - 1) (m.y + m.h - 1 + 1) (r.y + r.h - 1) := by unfold btw wrl; congr 1 <;> omega
  rw [q1, q2, q3, q4]
  generalize rcOf r.x (r.x + r.w - 1) r.y (m.y - 1) = t1
  generalize rcOf r.x (m.x - 1) m.y (m.y + m.h - 1) = t2
  generalize rcOf (m.x + m.w - 1 + 1) (r.x + r.w - 1) m.y (m.y + m.h - 1) = t3
  generalize rcOf r.x (r.x + r.w - 1) (m.y + m.h - 1 + 1) (r.y + r.h - 1) = t4
  unfold add
  cases k1 : t1.emp <;> cases k2 : t2.emp <;> cases k3 : t3.emp <;> cases k4 : t4.emp <;> simp [k1, k2, k3, k4]

end Go.Proofs.Ytbkhfebopmeanaa
