import Derived.Test.YtmafmpgpaioniaaProg
import Derived.WalkKit
import Derived.WalkLawsBesides
import Derived.Outline
import Derived.Lib.Walk
import Derived.Deep.QuietTactic
import Derived.BigQuiet
import Derived.RowKit3
import Derived.Deep.LoopGhost
import Derived.Laws.Rows
import Derived.Laws.Tables
import Derived.Laws.CopyOwn
import Derived.Lib.Hide
import Derived.Handy
import Derived.Deep.Onto
import Derived.IntWalk
import Derived.Deep.WholeRow
import Derived.Laws.ResultCell
import Derived.Test.YtmafmpgpaioniaaAW
import Derived.Test.YtmafmpgpaioniaaPD
import Derived.Test.YtmafmpgpaioniaaXL
namespace Go.Proofs.Ytmafmpgpaioniaa
open Go.RowKit
set_option maxHeartbeats 400000
set_option linter.unusedVariables false

/-- nine int8 as cells. -/
def ar8 (n : Nat) (f : Nat → Int) : Array Value := ((List.range n).map fun j => Value.int .i8 (f j)).toArray
theorem ar8_get {n : Nat} (f : Nat → Int) {j : Nat} (h : j < n) : (ar8 n f)[j]? = some (.int .i8 (f j)) := by simp [ar8, h]
def Has8 (W : World) (g n : Nat) (t : TypeId) (f : Nat → Int) : Prop := W.heap[g]? = some (.cells (ar8 n f) t)
theorem Has8.cell {W : World} {g n : Nat} {t : TypeId} {f : Nat → Int} (h : Has8 W g n t f) {j : Nat} (hj : j < n) : W.cell? ⟨g, j, none⟩ = some (.int .i8 (f j)) := by
  rw [cell_of_row _ _ j _ _ (0, 0) h]
  exact ar8_get f hj
theorem Has8.lt {W : World} {g n : Nat} {t : TypeId} {f : Nat → Int} (h : Has8 W g n t f) : g < W.heap.size := (Array.getElem?_eq_some_iff.1 h).1
theorem Has8.keep {W W' : World} {g n : Nat} {t : TypeId} {f : Nat → Int} (h : Has8 W g n t f) (hb : Below W.heap.size W W') : Has8 W' g n t f := (hb.block g h.lt).trans h
theorem Has8.new (W : World) (n : Nat) (t : TypeId) (f : Nat → Int) : Has8 (W.alloc (.cells (ar8 n f) t)) W.heap.size n t f := heap_alloc_last _ _
theorem Has8.other {W : World} {g g' n : Nat} {t : TypeId} {f : Nat → Int} (h : Has8 W g n t f) (hg : g ≠ g') (k : Nat) (v : Value) : Has8 (W.setCell ⟨g', k, none⟩ v) g n t f :=
  (heap_setCell_other W ⟨g', k, none⟩ g v hg).trans h
/-- the law's four blocks. -/
def S9 (w : World) (g0 g1 g2 g3 : Nat) (a b x y : Nat → Int) (W : World) : Prop :=
  Below w.heap.size w W ∧ Has8 W g0 9 38 a ∧ Has8 W g1 9 38 b ∧ Has W g2 9 22 x ∧ Has W g3 9 22 y
theorem S9.keep {w W W' : World} {g0 g1 g2 g3 : Nat} {a b x y : Nat → Int} (h : S9 w g0 g1 g2 g3 a b x y W) (hb : Below W.heap.size W W') : S9 w g0 g1 g2 g3 a b x y W' :=
  ⟨bel_trans h.1 hb, h.2.1.keep hb, h.2.2.1.keep hb, h.2.2.2.1.keep hb, h.2.2.2.2.keep hb⟩
theorem S9.step {w W : World} {g0 g1 g2 g3 : Nat} {a b X Y : Nat → Int} {k : Nat} (h : S9 w g0 g1 g2 g3 a b (part k X) (part k Y) W) (hg : g0 ≠ g2 ∧ g0 ≠ g3 ∧ g1 ≠ g2 ∧ g1 ≠ g3 ∧ g2 ≠ g3 ∧ w.heap.size ≤ g2 ∧ w.heap.size ≤ g3) {u v : Int} (hu : X k = u) (hv : Y k = v) :
    S9 w g0 g1 g2 g3 a b (part (k + 1) X) (part (k + 1) Y) ((W.setCell ⟨g2, k, none⟩ (.int .i64 u)).setCell ⟨g3, k, none⟩ (.int .i64 v)) := by
  subst hu hv
  obtain ⟨h02, h03, h12, h13, h23, l2, l3⟩ := hg
  refine ⟨bel_set (bel_set h.1 l2 _) l3 _, (h.2.1.other h02 _ _).other h03 _ _, (h.2.2.1.other h12 _ _).other h13 _ _, ?_, ?_⟩
  · rw [← part_upd k X]
    exact (h.2.2.2.1.set _ _).other h23 _ _
  · rw [← part_upd k Y]
    exact (h.2.2.2.2.other h23.symm _ _).set _ _
theorem S9.new (w : World) (a b x y : Nat → Int) :
    S9 w w.heap.size (w.heap.size + 1) (w.heap.size + 1 + 1) (w.heap.size + 1 + 1 + 1) a b x y ((((w.alloc (.cells (ar8 9 a) 38)).alloc (.cells (ar8 9 b) 38)).alloc (.cells (arr 9 x) 22)).alloc (.cells (arr 9 y) 22)) := by
  have h0 := Has8.new w 9 38 a
  have h1 := Has8.new (w.alloc (.cells (ar8 9 a) 38)) 9 38 b
  have h2 := Has.new ((w.alloc (.cells (ar8 9 a) 38)).alloc (.cells (ar8 9 b) 38)) 9 22 x
  have h3 := Has.new (((w.alloc (.cells (ar8 9 a) 38)).alloc (.cells (ar8 9 b) 38)).alloc (.cells (arr 9 x) 22)) 9 22 y
  simp only [World.size_alloc] at h1 h2 h3
  have hb : ∀ (X : World) (o : Obj), Below X.heap.size X (X.alloc o) := fun X o => (Below.refl _ _).alloc (Nat.le_refl _) o
  exact ⟨bel_al (bel_al (bel_al (bel_al (Below.refl _ _) _) _) _) _, ((h0.keep (hb _ _)).keep (hb _ _)).keep (hb _ _), (h1.keep (hb _ _)).keep (hb _ _), h2.keep (hb _ _), h3⟩

set_option maxHeartbeats 8000000 in
set_option maxRecDepth 100000 in
theorem l9 (a b : Nat → Int) (w : World) : Calls Try.prog 9 #[.agg (ar8 9 a), .agg (ar8 9 b)] w fun e w' => e = .returned (.bool true) ∧ Below w.heap.size w w' := by
  obtain ⟨X, hX⟩ : ∃ f, xF a = f := ⟨_, rfl⟩
  obtain ⟨Y, hY⟩ : ∃ f, xF b = f := ⟨_, rfl⟩
  have HXk := Lib.hid (show ∀ k, X k = (a k).tmod 3 from fun k => by rw [← hX]; rfl)
  have HYk := Lib.hid (show ∀ k, Y k = (b k).tmod 3 from fun k => by rw [← hY]; rfl)
  have HXY := Lib.hid (And.intro hX hY)
  have HBX := Lib.hid (show ∀ k, (-2 ≤ X k ∧ X k ≤ 2) ∧ (-2 ≤ Y k ∧ Y k ≤ 2) from fun k => by rw [← hX, ← hY]; exact ⟨xF_b a k, xF_b b k⟩)
  clear hX hY
  have HS := Lib.hid (S9.new w a b (part 0 X) (part 0 Y))
  obtain ⟨g0, e0⟩ : ∃ g, g = w.heap.size := ⟨_, rfl⟩
  obtain ⟨g1, e1⟩ : ∃ g, g = w.heap.size + 1 := ⟨_, rfl⟩
  obtain ⟨g2, e2⟩ : ∃ g, g = w.heap.size + 1 + 1 := ⟨_, rfl⟩
  obtain ⟨g3, e3⟩ : ∃ g, g = w.heap.size + 1 + 1 + 1 := ⟨_, rfl⟩
  have HG := Lib.hid (show g0 ≠ g2 ∧ g0 ≠ g3 ∧ g1 ≠ g2 ∧ g1 ≠ g3 ∧ g2 ≠ g3 ∧ w.heap.size ≤ g2 ∧ w.heap.size ≤ g3 by omega)
  rw [← e3, ← e2, ← e1, ← e0] at HS
  generalize hA8 : ar8 9 a = MA at *
  generalize hB8 : ar8 9 b = MB at *
  go_enter Try.func9, Try.ntmps9
  go_wp2
  rw [show #[Value.int .i64 0, .int .i64 0, .int .i64 0, .int .i64 0, .int .i64 0, .int .i64 0, .int .i64 0, .int .i64 0, .int .i64 0] = arr 9 (part 0 X) from zeros9 X]
  have hVV : (((w.alloc (.cells MA 38)).alloc (.cells MB 38)).alloc (.cells (arr 9 (part 0 X)) 22)).alloc (.cells (arr 9 (part 0 X)) 22) = (((w.alloc (.cells MA 38)).alloc (.cells MB 38)).alloc (.cells (arr 9 (part 0 X)) 22)).alloc (.cells (arr 9 (part 0 Y)) 22) := by rw [part_zero, part_zero]
  rw [hVV]
  clear hVV
  generalize (((w.alloc (.cells MA 38)).alloc (.cells MB 38)).alloc (.cells (arr 9 (part 0 X)) 22)).alloc (.cells (arr 9 (part 0 Y)) 22) = V at *
  rw [← e3, ← e2, ← e1, ← e0]
  clear e0 e1 e2 e3 hA8 hB8
  go_loopw [12] (fun ii W => ∃ i : Nat, ii = .int .i64 (i : Int) ∧ i ≤ 9 ∧ Hid (S9 w g0 g1 g2 g3 a b (part i X) (part i Y) W)) (fun ii _ => (9 - (intOf ii).toNat))
  case atStart => exact ⟨0, rfl, by omega, HS⟩
  case round =>
    obtain ⟨i, rfl, hi, hs⟩ := hrel
    clear HS
    by_cases hlt : i < 9
    · have ki : IntKind.i64.wrap ((i : Int) + 1) = (i : Int) + 1 := IntWalk.i64_in _ (by omega)
      have i9 : (i : Int) < 9 := by omega
      have ca := hs.out.2.1.cell hlt
      have cb := hs.out.2.2.1.cell hlt
      have cx := hs.out.2.2.2.1.cell hlt
      have fx := hs.out.2.2.2.1.frozen i
      have cy := hs.out.2.2.2.2.cell hlt
      have fy := hs.out.2.2.2.2.frozen i
      obtain ⟨u, hu⟩ : ∃ u, (a i).tmod 3 = u := ⟨_, rfl⟩
      obtain ⟨v, hv⟩ : ∃ v, (b i).tmod 3 = v := ⟨_, rfl⟩
      have hXi := HXk.out i
      have hYi := HYk.out i
      rw [hu] at hXi
      rw [hv] at hYi
      have bd := HBX.out i
      rw [hXi, hYi] at bd
      have u1 : IntKind.i64.wrap u = u := IntWalk.i64_in _ (by omega)
      have v1 : IntKind.i64.wrap v = v := IntWalk.i64_in _ (by omega)
      have u2 : IntKind.i8.wrap u = u := IntWalk.i8_in _ (by omega)
      have v2 : IntKind.i8.wrap v = v := IntWalk.i8_in _ (by omega)
      obtain ⟨h02, h03, h12, h13, h23, _, _⟩ := HG.out
      have k1 : ¬ g0 = g2 := h02
      have k2 : ¬ g1 = g2 := h12
      have k3 : ¬ g3 = g2 := h23.symm
      have k4 : ¬ g2 = g3 := h23
      have k5 : ¬ g1 = g3 := h13
      have k6 : ¬ g0 = g3 := h03
      have HN' := Lib.hid (hs.out.step HG.out hXi hYi)
      clear hs hXi hYi bd h02 h03 h12 h13 h23 HXk HYk HBX
      generalize a i = ai at *
      generalize b i = bi at *
      generalize part i X i = zx at *
      generalize part i Y i = zy at *
      go_wp2
      go_region
      go_wp2
      go_roundw
      case rel => exact ⟨i + 1, by simp, by omega, Lib.hid (HN'.out.keep (bel_drewN 1))⟩
      case measure => simp [intOf]; omega
    · obtain rfl : i = 9 := by omega
      obtain ⟨hB, _, _, h2, h3⟩ := hs.out
      replace h2 := h2.full9
      replace h3 := h3.full9
      obtain ⟨hX, hY⟩ := HXY.out
      obtain ⟨P, hP⟩ : ∃ f, oneF X = f := ⟨_, rfl⟩
      obtain ⟨Q, hQ⟩ : ∃ f, oneF Y = f := ⟨_, rfl⟩
      obtain ⟨D, hD⟩ : ∃ d, dtF X = d := ⟨_, rfl⟩
      obtain ⟨E, hE⟩ : ∃ d, dtF Y = d := ⟨_, rfl⟩
      have dD := x_dt a
      have dE := x_dt b
      rw [hX, hD] at dD
      rw [hY, hE] at dE
      have vP : detV P = D * 65536 := by rw [← hP, ← hX, det_one, hX, hD]
      have vQ : detV Q = E * 65536 := by rw [← hQ, ← hY, det_one, hY, hE]
      have vR : detV (mulM P Q) = D * (E * 65536) := by rw [← hP, ← hQ, ← hX, ← hY, det_prod, hX, hY, hD, hE]
      obtain ⟨lx, hlx⟩ : ∃ l, lst 9 X = l := ⟨_, rfl⟩
      have Ilx := Lib.hid (info_lst X hlx)
      obtain ⟨ly, hly⟩ : ∃ l, lst 9 Y = l := ⟨_, rfl⟩
      have Ily := Lib.hid (info_lst Y hly)
      obtain ⟨lp, hlp⟩ : ∃ l, lst 9 P = l := ⟨_, rfl⟩
      have Ilp := Lib.hid (info_lst P hlp)
      obtain ⟨lq, hlq⟩ : ∃ l, lst 9 Q = l := ⟨_, rfl⟩
      have Ilq := Lib.hid (info_lst Q hlq)
      have K24x := Lib.hid (show ∀ W : World, Calls Try.prog 24 #[.agg lx.toArray] W fun e w' => e = .returned (.agg #[.int .i64 (P 0), .int .i64 (P 1), .int .i64 (P 2), .int .i64 (P 3), .int .i64 (P 4), .int .i64 (P 5), .int .i64 (P 6), .int .i64 (P 7), .int .i64 (P 8)]) ∧ Below W.heap.size W w' from fun W => by
        have h := c24 X W
        rw [← hX, who_one, hX, hP, arr_lst 9 X hlx] at h
        exact h)
      have K24y := Lib.hid (show ∀ W : World, Calls Try.prog 24 #[.agg ly.toArray] W fun e w' => e = .returned (.agg #[.int .i64 (Q 0), .int .i64 (Q 1), .int .i64 (Q 2), .int .i64 (Q 3), .int .i64 (Q 4), .int .i64 (Q 5), .int .i64 (Q 6), .int .i64 (Q 7), .int .i64 (Q 8)]) ∧ Below W.heap.size W w' from fun W => by
        have h := c24 Y W
        rw [← hY, who_one, hY, hQ, arr_lst 9 Y hly] at h
        exact h)
      have k21p : ∀ W : World, Calls Try.prog 21 #[.agg lp.toArray] W fun e w' => e = .returned (.int .i64 (D * 65536)) ∧ Below W.heap.size W w' := fun W => by
        have h := c21 P W
        rw [vP, arr_lst 9 P hlp] at h
        exact h
      have k21q : ∀ W : World, Calls Try.prog 21 #[.agg lq.toArray] W fun e w' => e = .returned (.int .i64 (E * 65536)) ∧ Below W.heap.size W w' := fun W => by
        have h := c21 Q W
        rw [vQ, arr_lst 9 Q hlq] at h
        exact h
      obtain ⟨R, hR⟩ : ∃ r, arr 9 (mulM P Q) = r := ⟨_, rfl⟩
      have K13 := Lib.hid (show ∀ W : World, Calls Try.prog 13 #[.agg #[.int .i64 (P 0), .int .i64 (P 1), .int .i64 (P 2), .int .i64 (P 3), .int .i64 (P 4), .int .i64 (P 5), .int .i64 (P 6), .int .i64 (P 7), .int .i64 (P 8)], .agg #[.int .i64 (Q 0), .int .i64 (Q 1), .int .i64 (Q 2), .int .i64 (Q 3), .int .i64 (Q 4), .int .i64 (Q 5), .int .i64 (Q 6), .int .i64 (Q 7), .int .i64 (Q 8)]] W fun e w' => e = .returned (.agg R) ∧ Below W.heap.size W w' from fun W => hR ▸ c13 P Q W)
      have K21r := Lib.hid (show ∀ W : World, Calls Try.prog 21 #[.agg R] W fun e w' => e = .returned (.int .i64 (D * (E * 65536))) ∧ Below W.heap.size W w' from fun W => by
        have h := c21 (mulM P Q) W
        rw [vR, hR] at h
        exact h)
      have K10 := Lib.hid (fun W => l10 W)
      have KK := Lib.hid (And.intro k21p k21q)
      have HLL := Lib.hid (And.intro hlp hlq)
      have HDD := Lib.hid (And.intro dD dE)
      have hBw := hB.size
      have HX2 := Lib.hid (show ∀ W, Below wr.heap.size wr W → W.rangeAt g2 0 lx from fun W hW => hlx ▸ (h2.keep hW).range)
      have HY3 := Lib.hid (show ∀ W, Below wr.heap.size wr W → W.rangeAt g3 0 ly from fun W hW => hly ▸ (h3.keep hW).range)
      have HBH := Lib.hid hB
      clear hs hlt hi HXk HYk HBX HXY hX hY hP hQ hD hE dD dE vP vQ vR hlx hly hlp hlq k21p k21q hR h2 h3 hB
      go_wp2
      refine wp_region_two (fun W => Below wr.heap.size wr W) (fun W W' h hb => bel_trans h hb) (bel_drewN 1) 4 (.cells #[.int .i64 0, .int .i64 0, .int .i64 0, .int .i64 0, .int .i64 0, .int .i64 0, .int .i64 0, .int .i64 0, .int .i64 0] 22) 8 9 _ _ (by decide) rfl rfl rfl rfl ⟨⟨_, rfl⟩, rfl, ?_⟩ ⟨⟨_, rfl⟩, rfl, ?_⟩ (by kernel_rfl) (by kernel_rfl) ?_
      · intro W A
        go_simp
      · intro W A
        go_simp
      simp only [List.take_succ_cons, List.take_zero, List.drop_succ_cons, List.drop_zero]
      refine quietU_load 22 (.tmp 5) rfl g2 0 rfl lx _ HX2.out Try.underlying22 rfl Ilx.out (by rfl) ?_
      simp only [Act.put, List.setIfInBounds_toArray, List.set_cons_zero, List.set_cons_succ]
      refine quietU_call 24 #[.agg lx.toArray] (.agg #[.int .i64 (P 0), .int .i64 (P 1), .int .i64 (P 2), .int .i64 (P 3), .int .i64 (P 4), .int .i64 (P 5), .int .i64 (P 6), .int .i64 (P 7), .int .i64 (P 8)]) (by rfl) (fun W _ => ?_) (fun W _ => K24x.out W) ?_
      · go_simp
      simp only [Act.put, List.setIfInBounds_toArray, List.set_cons_zero, List.set_cons_succ]
      refine quietU_load 22 (.tmp 6) rfl g3 0 rfl ly _ HY3.out Try.underlying22 rfl Ily.out (by rfl) ?_
      simp only [Act.put, List.setIfInBounds_toArray, List.set_cons_zero, List.set_cons_succ]
      refine quietU_call 24 #[.agg ly.toArray] (.agg #[.int .i64 (Q 0), .int .i64 (Q 1), .int .i64 (Q 2), .int .i64 (Q 3), .int .i64 (Q 4), .int .i64 (Q 5), .int .i64 (Q 6), .int .i64 (Q 7), .int .i64 (Q 8)]) (by rfl) (fun W _ => ?_) (fun W _ => K24y.out W) ?_
      · go_simp
      simp only [Act.put, List.setIfInBounds_toArray, List.set_cons_zero, List.set_cons_succ]
      refine quietU_nil ?_
      rintro p q W ⟨g, h, rfl, rfl, hgh, k1, k2, hBW, ⟨z1, y1, s1⟩, ⟨z2, y2, s2⟩⟩
      have hg0 : w.heap.size ≤ g := Nat.le_trans (Nat.le_trans HBH.out.size y1.size) s1
      have hh0 : w.heap.size ≤ h := Nat.le_trans (Nat.le_trans HBH.out.size y2.size) s2
      have n1 : Has W g 9 22 (part 0 P) := by unfold Has; rw [← zeros9]; exact k1
      have n2 : Has W h 9 22 (part 0 Q) := by unfold Has; rw [← zeros9]; exact k2
      obtain ⟨a0, a1, a2, a3, a4, a5, a6, a7, a8⟩ := n1.cells9
      obtain ⟨c0, c1, c2, c3, c4, c5, c6, c7, c8⟩ := n1.froz9
      obtain ⟨f0, f1, f2, f3, f4, f5, f6, f7, f8⟩ := n2.cells9
      obtain ⟨e0, e1, e2, e3, e4, e5, e6, e7, e8⟩ := n2.froz9
      have N1 := Lib.hid ((((((((((n1.set9 P).other hgh 0 (.int .i64 (Q 0))).other hgh 1 (.int .i64 (Q 1))).other hgh 2 (.int .i64 (Q 2))).other hgh 3 (.int .i64 (Q 3))).other hgh 4 (.int .i64 (Q 4))).other hgh 5 (.int .i64 (Q 5))).other hgh 6 (.int .i64 (Q 6))).other hgh 7 (.int .i64 (Q 7))).other hgh 8 (.int .i64 (Q 8)))
      have N2 := Lib.hid ((((((((((n2.other hgh.symm 0 (.int .i64 (P 0))).other hgh.symm 1 (.int .i64 (P 1))).other hgh.symm 2 (.int .i64 (P 2))).other hgh.symm 3 (.int .i64 (P 3))).other hgh.symm 4 (.int .i64 (P 4))).other hgh.symm 5 (.int .i64 (P 5))).other hgh.symm 6 (.int .i64 (P 6))).other hgh.symm 7 (.int .i64 (P 7))).other hgh.symm 8 (.int .i64 (P 8))).set9 Q)
      have NB := Lib.hid (bel_set9 (bel_set9 (bel_trans HBH.out hBW) hg0 P) hh0 Q)
      have hne : ¬ g = h := hgh
      have hne' : ¬ h = g := fun e => hgh e.symm
      clear n1 n2 k1 k2 y1 s1 y2 s2 hBW hgh HX2 HY3 K24x K24y HBH hBw hg0 hh0
      simp only [List.setIfInBounds_toArray, List.set_cons_zero, List.set_cons_succ]
      generalize part 0 P = z1 at *
      generalize part 0 Q = z2 at *
      go_wp2
      generalize ((((((((((((((((((W.setCell ⟨g, 0, none⟩ (.int .i64 (P 0))).setCell ⟨g, 1, none⟩ (.int .i64 (P 1))).setCell ⟨g, 2, none⟩ (.int .i64 (P 2))).setCell ⟨g, 3, none⟩ (.int .i64 (P 3))).setCell ⟨g, 4, none⟩ (.int .i64 (P 4))).setCell ⟨g, 5, none⟩ (.int .i64 (P 5))).setCell ⟨g, 6, none⟩ (.int .i64 (P 6))).setCell ⟨g, 7, none⟩ (.int .i64 (P 7))).setCell ⟨g, 8, none⟩ (.int .i64 (P 8))).setCell ⟨h, 0, none⟩ (.int .i64 (Q 0))).setCell ⟨h, 1, none⟩ (.int .i64 (Q 1))).setCell ⟨h, 2, none⟩ (.int .i64 (Q 2))).setCell ⟨h, 3, none⟩ (.int .i64 (Q 3))).setCell ⟨h, 4, none⟩ (.int .i64 (Q 4))).setCell ⟨h, 5, none⟩ (.int .i64 (Q 5))).setCell ⟨h, 6, none⟩ (.int .i64 (Q 6))).setCell ⟨h, 7, none⟩ (.int .i64 (Q 7))).setCell ⟨h, 8, none⟩ (.int .i64 (Q 8))) = X9 at *
      have h1 := N1.out
      have h2 := N2.out
      have hB := NB.out
      obtain ⟨k21p, k21q⟩ := KK.out
      obtain ⟨hlp, hlq⟩ := HLL.out
      clear N1 N2 NB KK HLL a0 a1 a2 a3 a4 a5 a6 a7 a8 c0 c1 c2 c3 c4 c5 c6 c7 c8 f0 f1 f2 f3 f4 f5 f6 f7 f8 e0 e1 e2 e3 e4 e5 e6 e7 e8
      obtain ⟨DD, emb, hnn, HC0, HP, HQ, Hp, Hq, HB⟩ : ∃ (DD : Type) (emb : DD → World), Nonempty DD ∧ Hid (∃ q, (X9).drew = emb q) ∧ Hid (∀ W, (∃ q, W = emb q) → W.rangeAt (g) 0 lp) ∧ Hid (∀ W, (∃ q, W = emb q) → W.rangeAt (h) 0 lq) ∧ Hid (∀ q, Calls Try.prog 21 #[.agg lp.toArray] (emb q) fun e w' => e = .returned (.int .i64 (D * 65536)) ∧ ∃ q', w' = emb q') ∧ Hid (∀ q, Calls Try.prog 21 #[.agg lq.toArray] (emb q) fun e w' => e = .returned (.int .i64 (E * 65536)) ∧ ∃ q', w' = emb q') ∧ Hid (∀ q, Below w.heap.size w (emb q) ∧ Has (emb q) g 9 22 P ∧ Has (emb q) h 9 22 Q) :=
        ⟨{W // Below (X9).heap.size (X9) W}, Subtype.val, ⟨⟨_, bel_drewN 1⟩⟩, Lib.hid ⟨⟨_, bel_drewN 1⟩, rfl⟩, Lib.hid (fun W ⟨q, h⟩ => h ▸ hlp ▸ (h1.keep q.2).range), Lib.hid (fun W ⟨q, h⟩ => h ▸ hlq ▸ (h2.keep q.2).range), Lib.hid (fun q => (k21p q.1).mono fun e w' h => ⟨h.1, ⟨w', bel_trans q.2 h.2⟩, rfl⟩), Lib.hid (fun q => (k21q q.1).mono fun e w' h => ⟨h.1, ⟨w', bel_trans q.2 h.2⟩, rfl⟩), Lib.hid (fun q => ⟨bel_trans hB q.2, h1.keep q.2, h2.keep q.2⟩)⟩
      clear h1 h2 hB hlp hlq k21p k21q
      refine wp_region_quiet_tailC (fun W => ∃ q, W = emb q) HC0.out 5 (by kernel_rfl) (by kernel_rfl) ?_
      simp only [List.take_succ_cons, List.take_zero, List.drop_succ_cons, List.drop_zero]
      refine BigFrame.wpQuiet_want (by rfl) (fun K hK => quiet_load_mid 22 (.tmp 8) rfl (g) 0 rfl _ _ HP.out Try.underlying22 rfl Ilp.out (hK _ ?_))
      simp only [Act.put, List.setIfInBounds_toArray, List.set_cons_zero, List.set_cons_succ]
      clear hK K
      iterate 1 (quiet_step (first | (go_at_call 21; with_reducible exact Hp.out _) | (go_at_call 21; with_reducible exact Hq.out _)))
      refine BigFrame.wpQuiet_want (by rfl) (fun K hK => quiet_load_mid 22 (.tmp 9) rfl (h) 0 rfl _ _ HQ.out Try.underlying22 rfl Ilq.out (hK _ ?_))
      simp only [Act.put, List.setIfInBounds_toArray, List.set_cons_zero, List.set_cons_succ]
      clear hK K
      iterate 2 (quiet_step (first | (go_at_call 21; with_reducible exact Hp.out _) | (go_at_call 21; with_reducible exact Hq.out _)))
      refine wpQuiet_nil ?_
      intro _ hw'
      obtain ⟨q, hw''⟩ := hw'
      subst hw''
      obtain ⟨hB, h1, h2⟩ := HB.out q
      clear HB HP HQ Hp Hq HC0
      generalize emb q = Z at *
      have hh := Lib.hid (And.intro hB (And.intro h1 h2))
      clear hB h1 h2
      obtain ⟨⟨d1, d2⟩, ⟨d3, d4⟩⟩ := HDD.out
      obtain ⟨d, hd⟩ : ∃ d, D * 65536 = d := ⟨_, rfl⟩
      obtain ⟨f, hf⟩ : ∃ d, E * 65536 = d := ⟨_, rfl⟩
      rw [hf] at K21r
      rw [hd, hf]
      have r1 : d.tmod 65536 = 0 := by rw [← hd]; exact Int.mul_tmod_left _ _
      have r2 : f.tmod 65536 = 0 := by rw [← hf]; exact Int.mul_tmod_left _ _
      have r3 : d.tdiv 65536 = D := by rw [← hd]; exact Int.mul_tdiv_cancel _ (by decide)
      have r4 : f.tdiv 65536 = E := by rw [← hf]; exact Int.mul_tdiv_cancel _ (by decide)
      have r5 : IntKind.i64.wrap D = D := IntWalk.i64_in _ (by omega)
      have r6 : IntKind.i64.wrap E = E := IntWalk.i64_in _ (by omega)
      have pb : -9223372036854775808 ≤ D * f ∧ D * f ≤ 9223372036854775807 := by
        have h3 : D.natAbs * f.natAbs ≤ 48 * 3145728 := Nat.mul_le_mul (by omega) (by omega)
        rw [← Int.natAbs_mul] at h3
        omega
      have r7 : IntKind.i64.wrap (D * f) = D * f := IntWalk.i64_in _ (by omega)
      have b1 : ¬ (D < -100) := by omega
      have b2 : ¬ (100 < D) := by omega
      have b3 : ¬ (E < -100) := by omega
      have b4 : ¬ (100 < E) := by omega
      clear hd hf d1 d2 d3 d4 pb HDD
      go_wp2_with (go_at_call 10; fail)
      (with_reducible refine (K10.out _).mono ?_)
      rintro e1' w1 ⟨rfl, hb⟩
      replace hh := Lib.hid (show Below w.heap.size w w1 ∧ Has w1 g 9 22 P ∧ Has w1 h 9 22 Q from ⟨bel_trans hh.out.1 hb, hh.out.2.1.keep hb, hh.out.2.2.keep hb⟩)
      have a0 : w1.cell? ⟨g, 0, none⟩ = some (.int .i64 (P 0)) := hh.out.2.1.cell (by omega)
      have a1 : w1.cell? ⟨g, 1, none⟩ = some (.int .i64 (P 1)) := hh.out.2.1.cell (by omega)
      have a2 : w1.cell? ⟨g, 2, none⟩ = some (.int .i64 (P 2)) := hh.out.2.1.cell (by omega)
      have a3 : w1.cell? ⟨g, 3, none⟩ = some (.int .i64 (P 3)) := hh.out.2.1.cell (by omega)
      have a4 : w1.cell? ⟨g, 4, none⟩ = some (.int .i64 (P 4)) := hh.out.2.1.cell (by omega)
      have a5 : w1.cell? ⟨g, 5, none⟩ = some (.int .i64 (P 5)) := hh.out.2.1.cell (by omega)
      have a6 : w1.cell? ⟨g, 6, none⟩ = some (.int .i64 (P 6)) := hh.out.2.1.cell (by omega)
      have a7 : w1.cell? ⟨g, 7, none⟩ = some (.int .i64 (P 7)) := hh.out.2.1.cell (by omega)
      have a8 : w1.cell? ⟨g, 8, none⟩ = some (.int .i64 (P 8)) := hh.out.2.1.cell (by omega)
      have c0 : w1.cell? ⟨h, 0, none⟩ = some (.int .i64 (Q 0)) := hh.out.2.2.cell (by omega)
      have c1 : w1.cell? ⟨h, 1, none⟩ = some (.int .i64 (Q 1)) := hh.out.2.2.cell (by omega)
      have c2 : w1.cell? ⟨h, 2, none⟩ = some (.int .i64 (Q 2)) := hh.out.2.2.cell (by omega)
      have c3 : w1.cell? ⟨h, 3, none⟩ = some (.int .i64 (Q 3)) := hh.out.2.2.cell (by omega)
      have c4 : w1.cell? ⟨h, 4, none⟩ = some (.int .i64 (Q 4)) := hh.out.2.2.cell (by omega)
      have c5 : w1.cell? ⟨h, 5, none⟩ = some (.int .i64 (Q 5)) := hh.out.2.2.cell (by omega)
      have c6 : w1.cell? ⟨h, 6, none⟩ = some (.int .i64 (Q 6)) := hh.out.2.2.cell (by omega)
      have c7 : w1.cell? ⟨h, 7, none⟩ = some (.int .i64 (Q 7)) := hh.out.2.2.cell (by omega)
      have c8 : w1.cell? ⟨h, 8, none⟩ = some (.int .i64 (Q 8)) := hh.out.2.2.cell (by omega)
      clear hb K10
      go_wp2_with (go_at_call 13; fail)
      (with_reducible refine (K13.out _).mono ?_)
      rintro e2' w2 ⟨rfl, hb2⟩
      have hB := Lib.hid (bel_trans hh.out.1 hb2)
      clear hb2 K13 hh a0 a1 a2 a3 a4 a5 a6 a7 a8 c0 c1 c2 c3 c4 c5 c6 c7 c8
      go_wp2_with (go_at_call 21; fail)
      (with_reducible refine (K21r.out _).mono ?_)
      rintro e3' w3 ⟨rfl, hb3⟩
      have hB3 := Lib.hid (bel_trans hB.out hb3)
      clear hb3 K21r hB
      go_wp2
      go_ret
      exact ⟨by simp, hB3.out⟩

end Go.Proofs.Ytmafmpgpaioniaa
