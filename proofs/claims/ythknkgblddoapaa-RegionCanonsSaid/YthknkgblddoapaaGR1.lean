import Derived.Test.YthknkgblddoapaaProg
import Derived.WalkKit
import Derived.WalkLawsBesides
import Derived.Outline
import Derived.Lib.Walk
import Derived.Deep.QuietTactic
import Derived.BigQuiet
import Derived.RowKit3
import Derived.Deep.LoopGhost
import Derived.Great.Walk
import Derived.Great.BuildSlice
import Derived.Laws.Rows
import Derived.Laws.Tables
import Derived.Laws.CopyOwn
import Derived.Lib.Hide
import Derived.Handy
import Derived.Deep.Onto
import Derived.RegionTactic
import Derived.ChangeAlike
import Derived.Test.YthknkgblddoapaaMA
import Derived.Test.YthknkgblddoapaaMB
import Derived.Test.YthknkgblddoapaaMC
import Derived.Test.YthknkgblddoapaaMH
import Derived.Test.YthknkgblddoapaaMJ
import Derived.Test.YthknkgblddoapaaH1
import Derived.Test.YthknkgblddoapaaH2
namespace Go.Proofs.Ythknkgblddoapaa
open Go.RowKit
set_option maxHeartbeats 400000
set_option linter.unusedVariables false

/-- nothing, or one band. -/
def BD (D : List Rc) : Prop := D = [] ∨ ∃ b : Band, b.ok ∧ D = b.flat ∧ ∀ t ∈ D, t.emp = false
theorem runs_room : ∀ {R : List (Int × Int)} {r : Int × Int}, RunsOk (r :: R) → (∀ s ∈ r :: R, s.1 + s.2 ≤ 1048576) → 2 * ((r :: R).length : Int) - 1 ≤ 1048576 - r.1
  | [], r, h, hb => by
    have h1 := h.2 r (List.mem_cons_self ..)
    have h2 := hb r (List.mem_cons_self ..)
    simp
    omega
  | s :: R, r, h, hb => by
    have ih := runs_room h.tail (fun t ht => hb t (List.mem_cons_of_mem _ ht))
    have h1 := h.2 r (List.mem_cons_self ..)
    have h2 := (List.pairwise_cons.1 h.1).1 s (List.mem_cons_self ..)
    have e : ((r :: s :: R).length : Int) = ((s :: R).length : Int) + 1 := by simp
    rw [e]
    omega
theorem BD.len {D : List Rc} (h : BD D) : D.length ≤ 1048576 := by
  rcases h with rfl | ⟨b, hb, rfl, hne⟩
  · simp
  · rw [bflat_len2]
    obtain ⟨r, R, hR⟩ : ∃ r R, b.runs = r :: R := by
      cases e : b.runs with
      | nil => exact absurd e hb.2.1
      | cons r R => exact ⟨r, R, rfl⟩
    have hok := hb.2.2
    rw [hR] at hok
    have hall : ∀ s ∈ r :: R, -1048576 ≤ s.1 ∧ s.1 + s.2 ≤ 1048576 := fun s hs => by
      have := ne_ways _ (hne ⟨s.1, b.y, s.2, b.h⟩ (by unfold Band.flat; rw [hR]; exact List.mem_map.2 ⟨s, hs, rfl⟩))
      simp only at this
      omega
    have h1 := runs_room hok (fun s hs => (hall s hs).2)
    have h2 := (hall r (List.mem_cons_self ..)).1
    rw [hR]
    omega
theorem BD.mod {D : List Rc} (h : BD D) : ∀ t ∈ D, t.mod := by
  intro t ht
  rcases h with rfl | ⟨b, hb, rfl, hne⟩
  · cases ht
  · have := ne_ways t (hne t ht)
    unfold Rc.mod
    omega
theorem BD.one {t : Rc} (h : t.emp = false) : BD [t] := by
  have := ne_ways t h
  refine Or.inr ⟨⟨t.y, t.h, [(t.x, t.w)]⟩, ⟨by simp only; omega, by simp, ⟨List.pairwise_singleton _ _, fun r hr => ?_⟩⟩, rfl, fun s hs => ?_⟩
  · rw [List.mem_singleton] at hr
    subst hr
    simp only
    omega
  · rw [List.mem_singleton] at hs
    subst hs
    exact h
/-- the last run of a band. -/
theorem BD.last {b : Band} (hb : b.ok) : ∃ Q s, b.runs = Q ++ [s] := by
  rcases List.eq_nil_or_concat b.runs with h | ⟨Q, s, h⟩
  · exact absurd h hb.2.1
  · exact ⟨Q, s, by rw [h, List.concat_eq_append]⟩
theorem BD.snoc {b : Band} {Q : List (Int × Int)} {s : Int × Int} {t : Rc} (hb : b.ok) (hR : b.runs = Q ++ [s]) (hne : ∀ t ∈ b.flat, t.emp = false) (ht : t.emp = false) (hy : t.y = b.y) (hh : t.h = b.h) (hx : s.1 + s.2 < t.x) : BD (b.flat ++ [t]) := by
  have hw := ne_ways t ht
  have hok := hb.2.2
  rw [hR] at hok
  have hl := runs_last hok
  refine Or.inr ⟨⟨b.y, b.h, b.runs ++ [(t.x, t.w)]⟩, ⟨hb.1, by simp, ?_⟩, ?_, fun u hu => ?_⟩
  · simp only
    rw [hR]
    exact runs_snoc hok (by omega) (fun r hr => by have := hl r hr; omega)
  · rw [flat_snoc b, ← hy, ← hh]
  · rcases List.mem_append.1 hu with hu | hu
    · exact hne u hu
    · rw [List.mem_singleton] at hu
      subst hu
      exact ht
theorem rg_emp {t : Rc} {l O D : List Rc} (h : t.emp = true) : rightGo (t :: l) O D = false := by
  unfold rightGo
  rw [if_pos h]
theorem rg_run {t : Rc} {l O : List Rc} {b : Band} {Q : List (Int × Int)} {s : Int × Int} (h : t.emp = false) (hb : b.ok) (hR : b.runs = Q ++ [s]) (hy : t.y = b.y) (hh : t.h = b.h) :
    rightGo (t :: l) O b.flat = if t.x ≤ s.1 + s.2 then false else rightGo l O (b.flat ++ [t]) := by
  obtain ⟨u, m, e, e1, e2⟩ := flat_ne hb
  have hlast := flat_last hR
  conv => lhs; unfold rightGo
  rw [if_neg (by rw [h]; simp), e]
  simp only
  rw [if_pos ⟨by rw [e1]; exact hy, by rw [e2]; exact hh⟩, ← e, hlast]
theorem rg_new {t : Rc} {l O : List Rc} {b : Band} (h : t.emp = false) (hb : b.ok) (hn : ¬ (t.y = b.y ∧ t.h = b.h)) :
    rightGo (t :: l) O b.flat = if t.y < b.y + b.h ∨ joinedF O b.flat = true then false else rightGo l b.flat [t] := by
  obtain ⟨u, m, e, e1, e2⟩ := flat_ne hb
  conv => lhs; unfold rightGo
  rw [if_neg (by rw [h]; simp), e]
  simp only
  rw [if_neg (by rw [e1, e2]; exact hn), e1, e2]
theorem joined_none (O : List Rc) : joinedF O [] = false := by cases O <;> rfl
theorem rg_first {t : Rc} {l O : List Rc} (h : t.emp = false) : rightGo (t :: l) O [] = rightGo l [] [t] := by
  conv => lhs; unfold rightGo
  rw [if_neg (by rw [h]; simp)]
  simp only
  rw [if_neg (by rw [joined_none]; simp)]
theorem drop_get (L : List Rc) (k : Nat) (h : k < L.length) : L.drop k = L.getD k Rc.zero :: L.drop (k + 1) := by
  rw [List.drop_eq_getElem_cons h, List.getD_eq_getElem?_getD, List.getElem?_eq_getElem h]
  rfl
/-- a row of one element that was just made. -/
theorem own_one (W : World) (B : Nat) (t : Rc) (hB : B ≤ W.heap.size) : (W.alloc (.cells #[.int .i64 t.x, .int .i64 t.y, .int .i64 t.w, .int .i64 t.h] 33)).ownsRow B 33 4 (.slice (some ⟨W.heap.size, 0, none⟩) 1 1) [t].length (cellsR [t]) :=
  ⟨rfl, .inr ⟨W.heap.size, 1, _, rfl, hB, heap_alloc_new W _, by simp, by unfold maxLen; simp, rfl, rfl⟩⟩
theorem gr_of {W W' : World} (h : Below W.heap.size W W') : W.grownBy W' none := ⟨h.os, h.tape, h.output, h.size, fun k hk _ => h.block k hk⟩
/-- one more element of the last band. -/
theorem St3.push {W2 W w' : World} {B : Nat} {o d d' : Value} {O D : List Rc} (t : Rc) (h : St3 W2 W B o O d D)
    (own : w'.ownsRow B 33 4 d' (D.length + 1) (cellsR D ++ [.int .i64 t.x, .int .i64 t.y, .int .i64 t.w, .int .i64 t.h])) (hg : W.grownBy w' d.ownBlock) (hm : Moved W d d') : St3 W2 w' B o O d' (D ++ [t]) := by
  obtain ⟨h1, h2, h3, h4, h5⟩ := h
  refine ⟨own_keep h1 hg h3, ?_, apart_moved h3 h1 hm, h4.grown hg h5 (fun k e => (h2.lt k e).1), Nat.le_trans h5 hg.size⟩
  rw [cellsR_append, List.length_append]
  exact own
/-- a band of one new element; what was the last band is the one before. -/
theorem St3.next {W2 W : World} {B : Nat} {o d : Value} {O D : List Rc} (t : Rc) (h : St3 W2 W B o O d D) :
    St3 W2 (W.alloc (.cells #[.int .i64 t.x, .int .i64 t.y, .int .i64 t.w, .int .i64 t.h] 33)) B d D (.slice (some ⟨W.heap.size, 0, none⟩) 1 1) [t] := by
  obtain ⟨h1, h2, h3, h4, h5⟩ := h
  refine ⟨h2.alloc _, own_one W B t h5, ?_, h4.alloc h5 _, by simp; omega⟩
  cases hd : d.ownBlock with
  | none => exact Or.inl hd
  | some g =>
    right
    rw [hd]
    intro e
    have := (h2.lt g hd).2
    simp [Value.ownBlock] at e
    omega
theorem last_get {b : Band} {Q : List (Int × Int)} {s : Int × Int} (hR : b.runs = Q ++ [s]) : b.flat.getD (b.flat.length - 1) Rc.zero = ⟨s.1, b.y, s.2, b.h⟩ := by
  have hl : b.runs.length = Q.length + 1 := by rw [hR]; simp
  rw [bflat_len2, hl, Nat.add_sub_cancel, flat_getD b Q.length (by omega)]
  have e : b.runs[Q.length]'(by omega) = s := by
    simp only [hR]
    simp
  rw [e]

end Go.Proofs.Ythknkgblddoapaa
