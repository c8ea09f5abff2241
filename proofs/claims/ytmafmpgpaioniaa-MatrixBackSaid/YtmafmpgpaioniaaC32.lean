import Derived.Test.YtmafmpgpaioniaaProg
import Derived.WalkKit
import Derived.WalkLawsBesides
import Derived.Outline
import Derived.Lib.Walk
import Derived.Deep.QuietTactic
import Derived.BigQuiet
import Derived.RowKit3
import Derived.Deep.LoopGhost
import Derived.Laws.Rows
import Derived.Laws.Tables
import Derived.Laws.CopyOwn
import Derived.Lib.Hide
import Derived.Handy
import Derived.Deep.Onto
import Derived.IntWalk
import Derived.Deep.WholeRow
import Derived.Laws.ResultCell
import Derived.Test.YtmafmpgpaioniaaP2
import Derived.Test.YtmafmpgpaioniaaXL
import Derived.Test.YtmafmpgpaioniaaC13
namespace Go.Proofs.Ytmafmpgpaioniaa
open Go.RowKit
set_option maxHeartbeats 400000
set_option linter.unusedVariables false

theorem hasR {W : World} {g : Nat} (h : W.heap[g]? = some (.cells #[Value.int .i64 0, .int .i64 0, .int .i64 0] 29)) (F : Nat → Int) : Has W g 3 29 (part 0 F) := by
  unfold Has
  rw [← zeros3]
  exact h
set_option maxHeartbeats 8000000 in
set_option maxRecDepth 100000 in
theorem c32 (m : Nat → Int) (i j : Nat) (hi : i < 3) (hj : j < 3) (hm : okM m = true) (w : World) :
    Calls Try.prog 32 #[.agg (arr 9 m), .int .i64 (i : Int), .int .i64 (j : Int)] w fun e w' => e = .returned (.int .i64 (cofF m i j)) ∧ Below w.heap.size w w' := by
  obtain ⟨d, hd⟩ : ∃ d, cofF m i j = d := ⟨_, rfl⟩
  obtain ⟨i1, hi1⟩ : ∃ k, k = (i + 1) % 3 := ⟨_, rfl⟩
  obtain ⟨i2, hi2⟩ : ∃ k, k = (i + 2) % 3 := ⟨_, rfl⟩
  obtain ⟨j1, hj1⟩ : ∃ k, k = (j + 1) % 3 := ⟨_, rfl⟩
  obtain ⟨j2, hj2⟩ : ∃ k, k = (j + 2) % 3 := ⟨_, rfl⟩
  have x1 : IntKind.i64.wrap ((i : Int) + 1) = (i : Int) + 1 := IntWalk.i64_in _ (by omega)
  have x2 : IntKind.i64.wrap ((i : Int) + 2) = (i : Int) + 2 := IntWalk.i64_in _ (by omega)
  have x3 : IntKind.i64.wrap ((j : Int) + 1) = (j : Int) + 1 := IntWalk.i64_in _ (by omega)
  have x4 : IntKind.i64.wrap ((j : Int) + 2) = (j : Int) + 2 := IntWalk.i64_in _ (by omega)
  have y1 : ((i : Int) + 1).tmod 3 = (i1 : Int) := by rw [Int.tmod_eq_emod_of_nonneg (by omega)]; omega
  have y2 : ((i : Int) + 2).tmod 3 = (i2 : Int) := by rw [Int.tmod_eq_emod_of_nonneg (by omega)]; omega
  have y3 : ((j : Int) + 1).tmod 3 = (j1 : Int) := by rw [Int.tmod_eq_emod_of_nonneg (by omega)]; omega
  have y4 : ((j : Int) + 2).tmod 3 = (j2 : Int) := by rw [Int.tmod_eq_emod_of_nonneg (by omega)]; omega
  obtain ⟨la, hla⟩ : ∃ l, lst 9 m = l := ⟨_, rfl⟩
  have IA := Lib.hid (info_lst m hla)
  have C1 := Lib.hid (show ∀ W : World, Calls Try.prog 26 #[.agg la.toArray, .int .i64 (i1 : Int)] W fun e w' => e = .returned (.agg #[.int .i64 (rowF m i1 0), .int .i64 (rowF m i1 1), .int .i64 (rowF m i1 2)]) ∧ Below W.heap.size W w' from fun W => hla ▸ c26 m i1 (by omega) W)
  have C2 := Lib.hid (show ∀ W : World, Calls Try.prog 26 #[.agg la.toArray, .int .i64 (i2 : Int)] W fun e w' => e = .returned (.agg #[.int .i64 (rowF m i2 0), .int .i64 (rowF m i2 1), .int .i64 (rowF m i2 2)]) ∧ Below W.heap.size W w' from fun W => hla ▸ c26 m i2 (by omega) W)
  have h0 := Has.new w 9 22 m
  have HR := Lib.hid (show ∀ W, Below (w.alloc (.cells (arr 9 m) 22)).heap.size (w.alloc (.cells (arr 9 m) 22)) W → W.rangeAt w.heap.size 0 la from fun W hW => hla ▸ (h0.keep hW).range)
  have hB0 := Lib.hid (bel_al (Below.refl w.heap.size w) (.cells (arr 9 m) 22))
  have hz : w.heap.size < (w.alloc (.cells (arr 9 m) 22)).heap.size := by simp
  rw [hd]
  clear h0
  generalize arr 9 m = M at *
  go_enter Try.func32, Try.ntmps32
  go_wp2
  generalize w.alloc (.cells M 22) = V at *
  refine wp_region_two (fun W => Below V.heap.size V W) (fun W W' h hb => bel_trans h hb) (bel_drewN 1) 10 (.cells #[.int .i64 0, .int .i64 0, .int .i64 0] 29) 7 8 _ _ (by decide) rfl rfl rfl rfl ⟨⟨_, rfl⟩, rfl, ?_⟩ ⟨⟨_, rfl⟩, rfl, ?_⟩ (by kernel_rfl) (by kernel_rfl) ?_
  · intro W A
    go_simp
  · intro W A
    go_simp
  simp only [List.take_succ_cons, List.take_zero, List.drop_succ_cons, List.drop_zero]
  refine quietU_load 22 (.tmp 3) rfl w.heap.size 0 rfl la _ HR.out Try.underlying22 rfl IA.out (by rfl) ?_
  simp only [Act.put, List.setIfInBounds_toArray, List.set_cons_zero, List.set_cons_succ]
  refine quietU_val (.int .i64 (i : Int)) (by rfl) (fun W _ => ?_) ?_
  · go_simp
  simp only [Act.put, List.setIfInBounds_toArray, List.set_cons_zero, List.set_cons_succ]
  refine quietU_val (.int .i64 ((i : Int) + 1)) (by rfl) (fun W _ => ?_) ?_
  · go_simp
  simp only [Act.put, List.setIfInBounds_toArray, List.set_cons_zero, List.set_cons_succ]
  refine quietU_val (.int .i64 (i1 : Int)) (by rfl) (fun W _ => ?_) ?_
  · go_simp
  simp only [Act.put, List.setIfInBounds_toArray, List.set_cons_zero, List.set_cons_succ]
  refine quietU_call 26 #[.agg la.toArray, .int .i64 (i1 : Int)] (.agg #[.int .i64 (rowF m i1 0), .int .i64 (rowF m i1 1), .int .i64 (rowF m i1 2)]) (by rfl) (fun W _ => ?_) (fun W _ => C1.out W) ?_
  · go_simp
  simp only [Act.put, List.setIfInBounds_toArray, List.set_cons_zero, List.set_cons_succ]
  refine quietU_load 22 (.tmp 3) rfl w.heap.size 0 rfl la _ HR.out Try.underlying22 rfl IA.out (by rfl) ?_
  simp only [Act.put, List.setIfInBounds_toArray, List.set_cons_zero, List.set_cons_succ]
  refine quietU_val (.int .i64 (i : Int)) (by rfl) (fun W _ => ?_) ?_
  · go_simp
  simp only [Act.put, List.setIfInBounds_toArray, List.set_cons_zero, List.set_cons_succ]
  refine quietU_val (.int .i64 ((i : Int) + 2)) (by rfl) (fun W _ => ?_) ?_
  · go_simp
  simp only [Act.put, List.setIfInBounds_toArray, List.set_cons_zero, List.set_cons_succ]
  refine quietU_val (.int .i64 (i2 : Int)) (by rfl) (fun W _ => ?_) ?_
  · go_simp
  simp only [Act.put, List.setIfInBounds_toArray, List.set_cons_zero, List.set_cons_succ]
  refine quietU_call 26 #[.agg la.toArray, .int .i64 (i2 : Int)] (.agg #[.int .i64 (rowF m i2 0), .int .i64 (rowF m i2 1), .int .i64 (rowF m i2 2)]) (by rfl) (fun W _ => ?_) (fun W _ => C2.out W) ?_
  · go_simp
  simp only [Act.put, List.setIfInBounds_toArray, List.set_cons_zero, List.set_cons_succ]
  refine quietU_nil ?_
  rintro p q W ⟨g, h, rfl, rfl, hgh, k1, k2, hBW, ⟨w1, b1, s1⟩, ⟨w2, b2, s2⟩⟩
  have hg0 : w.heap.size ≤ g := Nat.le_trans (Nat.le_trans hB0.out.size b1.size) s1
  have hh0 : w.heap.size ≤ h := Nat.le_trans (Nat.le_trans hB0.out.size b2.size) s2
  have n1 := hasR k1 (rowF m i1)
  have n2 := hasR k2 (rowF m i2)
  obtain ⟨a0, a1, a2⟩ := n1.cells3
  obtain ⟨c0, c1, c2⟩ := n1.froz3
  obtain ⟨f0, f1, f2⟩ := n2.cells3
  obtain ⟨e0, e1, e2⟩ := n2.froz3
  have N1 := Lib.hid (((((n1.set3 (rowF m i1)).other hgh 0 (.int .i64 (rowF m i2 0))).other hgh 1 (.int .i64 (rowF m i2 1))).other hgh 2 (.int .i64 (rowF m i2 2))))
  have N2 := Lib.hid (((((n2.other hgh.symm 0 (.int .i64 (rowF m i1 0))).other hgh.symm 1 (.int .i64 (rowF m i1 1))).other hgh.symm 2 (.int .i64 (rowF m i1 2))).set3 (rowF m i2)))
  have NB := Lib.hid (bel_set3 (bel_set3 (bel_trans hB0.out hBW) hg0 (rowF m i1)) hh0 (rowF m i2))
  have hne : ¬ g = h := hgh
  have hne' : ¬ h = g := fun e => hgh e.symm
  clear n1 n2 k1 k2 b1 s1 b2 s2 hBW hgh HR IA C1 C2
  simp only [List.setIfInBounds_toArray, List.set_cons_zero, List.set_cons_succ]
  generalize part 0 (rowF m i1) = z1 at *
  generalize part 0 (rowF m i2) = z2 at *
  have p1 := prod_b hm (3 * i1 + j1) (3 * i2 + j2) (by omega) (by omega)
  have p2 := prod_b hm (3 * i1 + j2) (3 * i2 + j1) (by omega) (by omega)
  have hd' : m (3 * i1 + j1) * m (3 * i2 + j2) - m (3 * i1 + j2) * m (3 * i2 + j1) = d := by rw [← hd]; unfold cofF; rw [← hi1, ← hi2, ← hj1, ← hj2]
  have jj1 : (j1 : Int) < 3 := by omega
  have jj2 : (j2 : Int) < 3 := by omega
  have q11 := N1.out.cell (j := j1) (by omega)
  have q12 := N1.out.cell (j := j2) (by omega)
  have q21 := N2.out.cell (j := j1) (by omega)
  have q22 := N2.out.cell (j := j2) (by omega)
  rw [show rowF m i1 j1 = m (3 * i1 + j1) from rfl] at q11
  rw [show rowF m i1 j2 = m (3 * i1 + j2) from rfl] at q12
  rw [show rowF m i2 j1 = m (3 * i2 + j1) from rfl] at q21
  rw [show rowF m i2 j2 = m (3 * i2 + j2) from rfl] at q22
  have Q := Lib.hid (And.intro q11 (And.intro q12 (And.intro q21 q22)))
  have PP := Lib.hid (And.intro p1 (And.intro p2 hd'))
  clear x1 x2 y1 y2 hz
  clear q11 q12 q21 q22 p1 p2 hd' hd hi1 hi2 hj1 hj2 hi hj hm hg0 hh0 hla
  go_wp2
  generalize ((((((W.setCell ⟨g, 0, none⟩ (.int .i64 (rowF m i1 0))).setCell ⟨g, 1, none⟩ (.int .i64 (rowF m i1 1))).setCell ⟨g, 2, none⟩ (.int .i64 (rowF m i1 2))).setCell ⟨h, 0, none⟩ (.int .i64 (rowF m i2 0))).setCell ⟨h, 1, none⟩ (.int .i64 (rowF m i2 1))).setCell ⟨h, 2, none⟩ (.int .i64 (rowF m i2 2))) = X at *
  clear N1 N2 a0 a1 a2 f0 f1 f2 c0 c1 c2 e0 e1 e2 x3 x4 y3 y4
  obtain ⟨q11, q12, q21, q22⟩ := Q.out
  obtain ⟨p1, p2, hd'⟩ := PP.out
  clear Q PP
  generalize m (3 * i1 + j1) = u11 at *
  generalize m (3 * i1 + j2) = u12 at *
  generalize m (3 * i2 + j1) = u21 at *
  generalize m (3 * i2 + j2) = u22 at *
  obtain ⟨z, hz⟩ : ∃ z, z = u11 * u22 := ⟨_, rfl⟩
  obtain ⟨z', hz'⟩ : ∃ z, z = u12 * u21 := ⟨_, rfl⟩
  rw [← hz] at p1 hd'
  rw [← hz'] at p2 hd'
  have w1' : IntKind.i64.wrap (u11 * u22) = z := by rw [hz]; exact IntWalk.i64_in _ (by omega)
  have w2' : IntKind.i64.wrap (u12 * u21) = z' := by rw [hz']; exact IntWalk.i64_in _ (by omega)
  have w3' : IntKind.i64.wrap (z - z') = d := by rw [← hd']; exact IntWalk.i64_in _ (by omega)
  clear hd' p1 p2 hz hz'
  go_quiet (fail)
  go_wp2
  go_ret
  exact ⟨rfl, bel_dr NB.out _⟩

end Go.Proofs.Ytmafmpgpaioniaa
