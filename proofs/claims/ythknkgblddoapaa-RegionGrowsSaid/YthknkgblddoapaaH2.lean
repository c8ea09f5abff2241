import Derived.Test.YthknkgblddoapaaProg
import Derived.WalkKit
import Derived.WalkLawsBesides
import Derived.Outline
import Derived.Lib.Walk
import Derived.Deep.QuietTactic
import Derived.BigQuiet
import Derived.RowKit3
import Derived.Deep.LoopGhost
import Derived.Great.Walk
import Derived.Great.BuildSlice
import Derived.Laws.Rows
import Derived.Laws.Tables
import Derived.Laws.CopyOwn
import Derived.Lib.Hide
import Derived.Handy
import Derived.Deep.Onto
import Derived.RegionTactic
import Derived.ChangeAlike
import Derived.Test.YthknkgblddoapaaMA
import Derived.Test.YthknkgblddoapaaMB
import Derived.Test.YthknkgblddoapaaMC
import Derived.Test.YthknkgblddoapaaH1
namespace Go.Proofs.Ythknkgblddoapaa
open Go.RowKit
set_option maxHeartbeats 400000
set_option linter.unusedVariables false

/-- the bands before the last one and the last one, in two rows of one's own. -/
def St3 (W2 W : World) (B : Nat) (o : Value) (O : List Rc) (d : Value) (D : List Rc) : Prop :=
  W.ownsRow B 33 4 o O.length (cellsR O) ∧ W.ownsRow B 33 4 d D.length (cellsR D) ∧ Apart2 o d ∧ Below B W2 W ∧ B ≤ W.heap.size
/-- .. and a row of one's own beside them. -/
def St4 (W2 W : World) (B : Nat) (o : Value) (O : List Rc) (d : Value) (D : List Rc) (r : Value) (R : List Rc) : Prop :=
  St3 W2 W B o O d D ∧ W.ownsRow B 33 4 r R.length (cellsR R) ∧ Apart2 o r ∧ Apart2 d r
theorem apart_symm2 {v u : Value} (h : Apart2 v u) : Apart2 u v := by
  unfold Apart2 at *
  cases hu : u.ownBlock with
  | none => exact Or.inl rfl
  | some g =>
    right
    rcases h with h | h
    · rw [h]
      simp
    · intro e
      exact h (by rw [hu]; exact e.symm)
theorem apart_nil (v : Value) : Apart2 v (.slice none 0 0) := apart_symm2 (Or.inl rfl)
theorem own_keep {W W' : World} {base n size : Nat} {e : TypeId} {v r : Value} {xs : List Value} (h : W.ownsRow base e size v n xs) (hg : W.grownBy W' r.ownBlock) (ha : Apart2 v r) : W'.ownsRow base e size v n xs := h.kept hg ha
theorem own_put {W : World} {base n size : Nat} {e : TypeId} {v : Value} {xs : List Value} (h : W.ownsRow base e size v n xs) {g o : Nat} (hg : v.ownBlock = none ∨ v.ownBlock ≠ some g) (x : Value) : (W.setCell ⟨g, o, none⟩ x).ownsRow base e size v n xs := by
  refine h.kept (row := some g) ⟨rfl, rfl, rfl, by simp [World.setCell], fun k hk hne => ?_⟩ hg
  exact Below.heap_setCell _ _ _ _ (fun e => hne (by rw [e]))
theorem St3.up {W2 W W' : World} {B : Nat} {o d : Value} {O D : List Rc} (h : St3 W2 W B o O d D) (hg : W.grownBy W' none) : St3 W2 W' B o O d D := by
  obtain ⟨h1, h2, h3, h4, h5⟩ := h
  refine ⟨h1.kept hg ?_, h2.kept hg ?_, h3, h4.grown hg h5 (fun k e => by cases e), Nat.le_trans h5 hg.size⟩
  · cases o.ownBlock <;> simp
  · cases d.ownBlock <;> simp
theorem St4.up {W2 W W' : World} {B : Nat} {o d r : Value} {O D R : List Rc} (h : St4 W2 W B o O d D r R) (hg : W.grownBy W' none) : St4 W2 W' B o O d D r R := by
  obtain ⟨h0, h1, h2, h3⟩ := h
  refine ⟨h0.up hg, h1.kept hg ?_, h2, h3⟩
  cases r.ownBlock <;> simp
theorem grown_drewN (W : World) (q : Nat) (row : Option Nat) : W.grownBy (W.drewN q) row := ⟨rfl, rfl, rfl, Nat.le_refl _, fun _ _ _ => rfl⟩
theorem grown_drew (W : World) (row : Option Nat) : W.grownBy W.drew row := ⟨rfl, rfl, rfl, Nat.le_refl _, fun _ _ _ => rfl⟩
theorem grown_both {a b c : World} {row : Option Nat} (h : a.grownBy b row) (k : b.grownBy c row) : a.grownBy c row :=
  ⟨k.os.trans h.os, k.tape.trans h.tape, k.output.trans h.output, Nat.le_trans h.size k.size, fun i hi hn => (k.block i (Nat.lt_of_lt_of_le hi h.size) hn).trans (h.block i hi hn)⟩
theorem St4.start {W2 W : World} {B : Nat} {o d : Value} {O D : List Rc} (h : St3 W2 W B o O d D) : St4 W2 W B o O d D (.slice none 0 0) [] :=
  ⟨h, World.ownsRow_nil _ _ _ _, apart_nil _, apart_nil _⟩
/-- one more element of the row. -/
theorem St4.append {W2 W w' : World} {B : Nat} {o d r r' : Value} {O D R : List Rc} (t : Rc) (h : St4 W2 W B o O d D r R)
    (own : w'.ownsRow B 33 4 r' (R.length + 1) (cellsR R ++ [.int .i64 t.x, .int .i64 t.y, .int .i64 t.w, .int .i64 t.h])) (hg : W.grownBy w' r.ownBlock) (hm : Moved W r r') : St4 W2 w' B o O d D r' (R ++ [t]) := by
  obtain ⟨⟨h1, h2, h3, h4, h5⟩, k1, k2, k3⟩ := h
  refine ⟨⟨own_keep h1 hg k2, own_keep h2 hg k3, h3, h4.grown hg h5 (fun k e => (k1.lt k e).1), Nat.le_trans h5 hg.size⟩, ?_, apart_moved k2 h1 hm, apart_moved k3 h2 hm⟩
  rw [cellsR_append, List.length_append]
  exact own
/-- a store into the row. -/
theorem St4.store {W2 W : World} {B : Nat} {o d : Value} {O D R R' : List Rc} {g n cap k : Nat} {x : Value} (h : St4 W2 W B o O d D (.slice (some ⟨g, 0, none⟩) n cap) R)
    (hn : n = R.length) (hl : R'.length = R.length) (hc : cellsR R' = (cellsR R).set k x) : St4 W2 (W.setCell ⟨g, k, none⟩ x) B o O d D (.slice (some ⟨g, 0, none⟩) n cap) R' := by
  obtain ⟨⟨h1, h2, h3, h4, h5⟩, k1, k2, k3⟩ := h
  refine ⟨⟨own_put h1 k2 _, own_put h2 k3 _, h3, h4.setCell (k1.lt g rfl).1 _, by simpa [World.setCell] using h5⟩, ?_, k2, k3⟩
  subst hn
  rw [hl, hc]
  exact (k1.stored _ _).1
theorem St4.drop {W2 W : World} {B : Nat} {o d r : Value} {O D R : List Rc} (h : St4 W2 W B o O d D r R) : St3 W2 W B o O d D := h.1
/-- the row is the last band now. -/
theorem St4.shift {W2 W w' : World} {B : Nat} {o o' d r : Value} {O D R : List Rc} (h : St4 W2 W B o O d D r R)
    (own : w'.ownsRow B 33 4 o' (O.length + D.length) (cellsR O ++ cellsR D)) (hg : W.grownBy w' o.ownBlock) (hm : Moved W o o') : St3 W2 w' B o' (O ++ D) r R := by
  obtain ⟨⟨h1, h2, h3, h4, h5⟩, k1, k2, k3⟩ := h
  refine ⟨?_, own_keep k1 hg (apart_symm2 k2), apart_symm2 (apart_moved (apart_symm2 k2) k1 hm), h4.grown hg h5 (fun k e => (h1.lt k e).1), Nat.le_trans h5 hg.size⟩
  rw [cellsR_append, List.length_append]
  exact own
/-- a store into the last band. -/
theorem St3.store {W2 W : World} {B : Nat} {o : Value} {O D D' : List Rc} {g n cap k : Nat} {x : Value} (h : St3 W2 W B o O (.slice (some ⟨g, 0, none⟩) n cap) D)
    (hn : n = D.length) (hl : D'.length = D.length) (hc : cellsR D' = (cellsR D).set k x) : St3 W2 (W.setCell ⟨g, k, none⟩ x) B o O (.slice (some ⟨g, 0, none⟩) n cap) D' := by
  obtain ⟨h1, h2, h3, h4, h5⟩ := h
  refine ⟨own_put h1 h3 _, ?_, h3, h4.setCell (h2.lt g rfl).1 _, by simpa [World.setCell] using h5⟩
  subst hn
  rw [hl, hc]
  exact (h2.stored _ _).1

end Go.Proofs.Ythknkgblddoapaa
