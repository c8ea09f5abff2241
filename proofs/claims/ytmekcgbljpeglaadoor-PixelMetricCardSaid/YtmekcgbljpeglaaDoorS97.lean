import Derived.Test.YtmekcgbljpeglaaDoorProg
import Derived.WalkKit
import Derived.WalkLawsBesides
import Derived.Outline
import Derived.Lib.Walk
import Derived.Deep.QuietTactic
import Derived.BigQuiet
import Derived.RowKit3
import Derived.Deep.LoopGhost
import Derived.Laws.Rows
import Derived.Laws.Tables
import Derived.Laws.CopyOwn
import Derived.Lib.Hide
import Derived.Handy
import Derived.Deep.Onto
import Derived.IntWalk
import Derived.Laws.BitsAllLaws
import Derived.Laws.OwnMore
import Derived.Deep.AppendLies
import Derived.Deep.DeepAppendWide
import Derived.Test.YtmekcgbljpeglaaDoorA1
import Derived.Test.YtmekcgbljpeglaaDoorA2
import Derived.Test.YtmekcgbljpeglaaDoorQT
import Derived.Test.YtmekcgbljpeglaaDoorT1
import Derived.Test.YtmekcgbljpeglaaDoorS5
import Derived.Test.YtmekcgbljpeglaaDoorS7
import Derived.Test.YtmekcgbljpeglaaDoorO1
import Derived.Test.YtmekcgbljpeglaaDoorK35
import Derived.Test.YtmekcgbljpeglaaDoorT2
import Derived.Test.YtmekcgbljpeglaaDoorS8
namespace Go.Proofs.YtmekcgbljpeglaaDoor
open Go.RowKit
set_option maxHeartbeats 400000
set_option linter.unusedVariables false

theorem map_flat (l : List UInt8) : l.map valD = l.flatMap fun c => [valD c] := by
  induction l with
  | nil => rfl
  | cons x l ih => rw [List.map_cons, List.flatMap_cons, ih]; rfl

set_option maxHeartbeats 4000000 in
theorem s33_7 (t : List UInt8) (ht : t.length = 6) (w : World) : Calls Tryd.prog 33 #[.string (mkS (35 :: t))] w fun e w' => e = .returned (.tuple #[(parseF (35 :: t)).1.val, .int .i64 (parseF (35 :: t)).2]) ∧ Below w.heap.size w w' := by
  obtain ⟨i0, hi, hz0', hz1, hz2⟩ := info_parts info3
  have HPN : Hid ((∃ c ∈ t, hexv c.toNat = none) → (parseF (35 :: t)).1 = ⟨0, 0, 0, 0⟩ ∧ (parseF (35 :: t)).2 = 4) := Lib.hid fun h => by rw [parse_none h]; exact ⟨rfl, rfl⟩
  have HPG : Hid ((∀ c ∈ t, hexv c.toNat ≠ none) → ((parseF (35 :: t)).1 = dig8 ((t.flatMap fun c => [valD c]) ++ [15, 15]) ∧ (parseF (35 :: t)).2 = 0) ∧ (∀ y ∈ (t.flatMap fun c => [valD c]) ++ [15, 15], 0 ≤ y ∧ y ≤ 15) ∧ ((t.flatMap fun c => [valD c]) ++ [15, 15]).length = 8) := Lib.hid fun h => by
    obtain ⟨h1, h2, h3⟩ := parse_good (t := t) (by omega) h
    have hc : (compl t).map valD = (t.flatMap fun c => [valD c]) ++ [15, 15] := by
      have e : compl t = t ++ [102, 102] := by
        unfold compl
        split
        · simp at ht
        · rw [if_pos ht]
      rw [e, List.map_append]
      congr 1
      exact map_flat t
    rw [hc] at h1 h2 h3
    rw [h1]
    exact ⟨⟨rfl, rfl⟩, h2, h3⟩
  obtain ⟨R, hR⟩ : ∃ R, R = (parseF (35 :: t)).1 := ⟨_, rfl⟩
  obtain ⟨E, hE⟩ : ∃ E, E = (parseF (35 :: t)).2 := ⟨_, rfl⟩
  rw [← hR, ← hE] at HPN HPG ⊢
  clear hR hE
  obtain ⟨S, hSS⟩ : ∃ S, S = mkS (35 :: t) := ⟨_, rfl⟩
  rw [← hSS]
  have hS : S.size = 7 := by rw [hSS]; show t.length + 1 = 7; omega
  have HX : Hid (∀ k (h : k < 6), S[k + 1]'(by rw [hS]; omega) = t[k]'(by omega)) := Lib.hid fun k h => by subst hSS; rw [getS (35 :: t) (k + 1) (by simp; omega)]; simp
  have hx0 : S[0]'(by rw [hS]; omega) = 35 := by subst hSS; exact getS (35 :: t) 0 (by simp)
  clear hSS
  obtain ⟨T, hT⟩ : ∃ T : Nat → List Int, T = fun k => (t.take k).flatMap fun c => [valD c] := ⟨_, rfl⟩
  have HT0 : Hid (T 0 = []) := Lib.hid (by rw [hT]; rfl)
  have HTN : Hid (∀ k (h : k < 6), T (k + 1) = T k ++ (fun c => [valD c]) (t[k]'(by omega))) := Lib.hid fun k h => by
    rw [hT]
    show (t.take (k + 1)).flatMap _ = (t.take k).flatMap _ ++ _
    rw [← List.take_append_getElem (show k < t.length by omega), List.flatMap_append]
    simp
  have HTL : Hid (∀ k, k ≤ 6 → (T k).length = 1 * k) := Lib.hid fun k hk => by
    rw [hT]
    show ((t.take k).flatMap _).length = _
    have : ∀ l : List UInt8, (l.flatMap fun c => [valD c]).length = 1 * l.length := by
      intro l
      induction l with
      | nil => rfl
      | cons c l ih => rw [List.flatMap_cons, List.length_append, ih]; simp; omega
    rw [this, List.length_take]
    omega
  have HTE : Hid (T 6 = t.flatMap fun c => [valD c]) := Lib.hid (by rw [hT]; show (t.take 6).flatMap _ = _; rw [List.take_of_length_le (by omega)])
  rw [← HTE.out] at HPG
  clear hT HTE
  rw [show Px.val R = .agg #[.int .i64 R.r, .int .i64 R.g, .int .i64 R.b, .int .i64 R.a] from rfl]
  go_enter Tryd.func33, Tryd.ntmps33
  have HB0 : Below (w.heap.size + 1) (w.alloc (.cells #[.int .i64 0, .int .i64 0, .int .i64 0, .int .i64 0] 23)) (w.alloc (.cells #[.int .i64 0, .int .i64 0, .int .i64 0, .int .i64 0] 23)) := Below.refl _ _
  have HO0 := World.ownsRow_nil (w.alloc (.cells #[.int .i64 0, .int .i64 0, .int .i64 0, .int .i64 0] 23)) (w.heap.size + 1) 3 1
  go_wp2
  go_loopw [4, 5] (fun vv ii W => ∃ (m : Nat), ii = .int .i64 (m : Int) ∧ 1 ≤ m ∧ m ≤ 7 ∧ W.ownsRow (w.heap.size + 1) 3 1 vv (T (m - 1)).length (iv (T (m - 1))) ∧ Below (w.heap.size + 1) (w.alloc (.cells #[.int .i64 0, .int .i64 0, .int .i64 0, .int .i64 0] 23)) W ∧ Hid (∀ (j : Nat) (h : j < 6), j < m - 1 → hexv (t[j]'(by omega)).toNat ≠ none)) (fun _ ii _ => (7 - (intOf ii).toNat))
  case atStart => exact ⟨1, rfl, by omega, by omega, by rw [show 1 - 1 = 0 from rfl, HT0.out]; exact HO0, HB0, Lib.hid fun j _ h => absurd h (by omega)⟩
  case round =>
    obtain ⟨m, rfl, hm1, hm4, ho1, hB1, hall⟩ := hrel
    by_cases hlt : m < 7
    · have i1 : (m : Int) < 7 := by omega
      have i2 : (0 : Int) ≤ (m : Int) := by omega
      have hx := HX.out (m - 1) (by omega)
      have hTn := HTN.out (m - 1) (by omega)
      have hTl := HTL.out (m - 1) (by omega)
      have hmem : t[m - 1]'(by omega) ∈ t := List.getElem_mem _
      have kk : IntKind.i64.wrap ((m : Int) + 1) = ((m + 1 : Nat) : Int) := by rw [IntWalk.i64_in _ (by omega)]; omega
      rw [show m - 1 + 1 = (m + 1) - 1 by omega] at hTn
      have hx' : S[m]'(by rw [hS]; omega) = t[m - 1]'(by omega) := by
        rw [← hx]
        congr 1
        omega
      have NEW : Hid (hexv (t[m - 1]'(by omega)).toNat ≠ none → ∀ (j : Nat) (h : j < 6), j < m + 1 - 1 → hexv (t[j]'(by omega)).toNat ≠ none) := Lib.hid fun h0 j h hj => by
        by_cases hjm : j < m - 1
        · exact hall.out j h hjm
        · have e : j = m - 1 := by omega
          subst e
          exact h0
      clear hx hall
      generalize t[m - 1]'(by omega) = c at *
      have c1 := fun w => s53 c w
      cases hd : hexv c.toNat with
      | none =>
        rw [valD_none hd] at c1
        have C1 := Lib.hid c1
        obtain ⟨hR, hE⟩ := HPN.out ⟨c, hmem, hd⟩
        have r0 : rec4 (wr.alloc (.cells #[] 3)) w.heap.size 0 0 0 0 := rec4.below (rec4.new w 0 0 0 0 23) (hB1.alloc (by have := hB1.size; simp at this; omega) _) (by omega)
        have r1 : rec4 wr w.heap.size 0 0 0 0 := rec4.below (rec4.new w 0 0 0 0 23) hB1 (by omega)
        obtain ⟨⟨c00, c01, c02, c03⟩, f00, f01, f02, f03⟩ := r1.cells
        have G : Below w.heap.size w wr := Below.trans (bel_al (Below.refl _ _) _) (hB1.mono (by omega))
        have hz : w.heap.size < wr.heap.size := by have := hB1.size; simp at this; omega
        have HRE : Hid (R = ⟨0, 0, 0, 0⟩ ∧ E = 4) := Lib.hid ⟨hR, hE⟩
        clear r0 r1 hR hE hTn hTl hmem c1 hd NEW
        go_wp2_with (go_at_call 53; (with_reducible refine (C1.out _).mono ?_); rintro e1 w1 ⟨rfl, rfl⟩)
        exact bodyPost_ret (v := .tuple #[.agg #[.int .i64 (0), .int .i64 (0), .int .i64 (0), .int .i64 (0)], .int .i64 4]) (by simp [results, Tryd.results33, go_sem, *]) rfl ⟨by rw [HRE.out.1, HRE.out.2], by go_grown <;> exact G⟩
      | some d =>
        have hv := valD_some hd
        have NEW2 := Lib.hid (NEW.out (by rw [hd]; simp))
        rw [hv] at c1
        simp only [hv] at hTn
        have C1 := Lib.hid c1
        have HTn := Lib.hid hTn
        have q1 : decide ((d : Int) < 0) = false := decide_eq_false (by omega)
        have q2 : (0 : Int) ≤ (d : Int) := by omega
        obtain ⟨D, hD⟩ : ∃ D : Int, D = (d : Int) := ⟨_, rfl⟩
        rw [← hD] at C1 q1 HTn q2
        clear hD hd hv c1 hTn hmem NEW d
        go_wp2_with (go_at_call 53; fail)
        (with_reducible refine (C1.out _).mono ?_)
        rintro e1 w1 ⟨rfl, rfl⟩
        go_wp2_with (at_builtin; refine wpList_append_own_wide _ rfl _ _ 43 rfl (w.heap.size + 1) 3 i0 (.int .i64 0) 1 8 Tryd.underlying43 hi hz0' hz1 hz2 rfl (by decide) _ _ _ rfl (ho1.alloc _) ⟨wr.heap.size, 0, none⟩ 1 1 [.int .i64 D] rfl rfl (news1 (by simp [go_sem])) ?c2 ?c3 ?c4 ?c5 ?_)
        case c2 => intro u hu; simp at hu; subst hu ; rfl
        case c3 => unfold maxLen; omega
        case c4 => omega
        case c5 => have := hB1.size; simp at this; simp; omega
        intro v2 W2 ho2 hgrow _
        have hB2 := below_app1 hB1 (by simp) ho1 hgrow
        clear hgrow ho1 hB1
        go_wp2
        go_roundw
        case rel => exact ⟨m + 1, rfl, by omega, by omega, by rw [HTn.out, iv_append, List.length_append, hTl, show 1 * (m - 1) + [D].length = m by simp; omega]; exact ho2, hB2, NEW2⟩
        case measure => simp [intOf]; omega
    · obtain rfl : m = 7 := by omega
      have HALL : ∀ c ∈ t, hexv c.toNat ≠ none := fun c hc => by
        obtain ⟨j, hj, rfl⟩ := List.getElem_of_mem hc
        exact hall.out j (by omega) (by omega)
      obtain ⟨⟨hR, hE⟩, hbd, hlen⟩ := HPG.out HALL
      have hTl := HTL.out 6 (by omega)
      rw [show 7 - 1 = 6 from rfl] at ho1
      generalize T 6 = Y0 at *
      clear HALL hall
      rw [hTl] at ho1
      obtain ⟨g0, cap0, hv0, _⟩ := World.ownsRow.form ho1 (by omega)
      subst hv0
      go_wp2_with (at_builtin; refine wpList_append_own_wide _ rfl _ _ 43 rfl (w.heap.size + 1) 3 i0 (.int .i64 0) 1 8 Tryd.underlying43 hi hz0' hz1 hz2 rfl (by decide) _ _ _ rfl (ho1.alloc _) ⟨wr.heap.size, 0, none⟩ 2 2 [.int .i64 15, .int .i64 15] rfl rfl (news2 (by simp [go_sem]) (by simp [go_sem])) ?c2 ?c3 ?c4 ?c5 ?_)
      case c2 => intro u hu; simp at hu; rcases hu with rfl | rfl <;> rfl
      case c3 => unfold maxLen; omega
      case c4 => omega
      case c5 => have := hB1.size; simp at this; simp; omega
      intro v2 W2 ho2 hgrow _
      have hB2 := below_app1 hB1 (by simp) ho1 hgrow
      clear hgrow ho1 hB1
      have ho9 : W2.ownsRow (w.heap.size + 1) 3 1 v2 8 (iv (Y0 ++ [15, 15])) := by rw [iv_append]; simpa [iv] using ho2
      clear ho2
      obtain ⟨g1, cap1, hv1, _, hg1⟩ := World.ownsRow.form ho9 (by omega)
      subst hv1
      generalize Y0 ++ [15, 15] = Y at *
      have hB9 := hB2
      clear hB2
      match Y, hlen with
      | [y0, y1, y2, y3, y4, y5, y6, y7], _ =>
        have p0 : W2.cell? ⟨g1, 0, none⟩ = some (.int .i64 y0) := World.ownsRow.cellAt ho9 0 (by omega)
        have l0 := hbd y0 (by simp)
        have p1 : W2.cell? ⟨g1, 1, none⟩ = some (.int .i64 y1) := World.ownsRow.cellAt ho9 1 (by omega)
        have l1 := hbd y1 (by simp)
        have p2 : W2.cell? ⟨g1, 2, none⟩ = some (.int .i64 y2) := World.ownsRow.cellAt ho9 2 (by omega)
        have l2 := hbd y2 (by simp)
        have p3 : W2.cell? ⟨g1, 3, none⟩ = some (.int .i64 y3) := World.ownsRow.cellAt ho9 3 (by omega)
        have l3 := hbd y3 (by simp)
        have p4 : W2.cell? ⟨g1, 4, none⟩ = some (.int .i64 y4) := World.ownsRow.cellAt ho9 4 (by omega)
        have l4 := hbd y4 (by simp)
        have p5 : W2.cell? ⟨g1, 5, none⟩ = some (.int .i64 y5) := World.ownsRow.cellAt ho9 5 (by omega)
        have l5 := hbd y5 (by simp)
        have p6 : W2.cell? ⟨g1, 6, none⟩ = some (.int .i64 y6) := World.ownsRow.cellAt ho9 6 (by omega)
        have l6 := hbd y6 (by simp)
        have p7 : W2.cell? ⟨g1, 7, none⟩ = some (.int .i64 y7) := World.ownsRow.cellAt ho9 7 (by omega)
        have l7 := hbd y7 (by simp)
        have m0 : IntKind.i64.wrap (16 * y0) = 16 * y0 := IntWalk.i64_in _ (by omega)
        obtain ⟨Z0, hZ0⟩ : ∃ Z0, Z0 = 16 * y0 + y1 := ⟨_, rfl⟩
        have a0 : IntKind.i64.wrap (16 * y0 + y1) = Z0 := by rw [hZ0]; exact IntWalk.i64_in _ (by omega)
        have F0 : Hid (∀ w, Calls Tryd.prog 29 #[.int .i64 Z0] w fun e w' => e = .returned (.int .i64 (fr8 Z0)) ∧ ∃ n, w' = w.drewN n) := Lib.hid fun w => (s29 Z0 w).mono fun e w' h => ⟨h.1, 0, h.2.symm⟩
        have m1 : IntKind.i64.wrap (16 * y2) = 16 * y2 := IntWalk.i64_in _ (by omega)
        obtain ⟨Z1, hZ1⟩ : ∃ Z1, Z1 = 16 * y2 + y3 := ⟨_, rfl⟩
        have a1 : IntKind.i64.wrap (16 * y2 + y3) = Z1 := by rw [hZ1]; exact IntWalk.i64_in _ (by omega)
        have F1 : Hid (∀ w, Calls Tryd.prog 29 #[.int .i64 Z1] w fun e w' => e = .returned (.int .i64 (fr8 Z1)) ∧ ∃ n, w' = w.drewN n) := Lib.hid fun w => (s29 Z1 w).mono fun e w' h => ⟨h.1, 0, h.2.symm⟩
        have m2 : IntKind.i64.wrap (16 * y4) = 16 * y4 := IntWalk.i64_in _ (by omega)
        obtain ⟨Z2, hZ2⟩ : ∃ Z2, Z2 = 16 * y4 + y5 := ⟨_, rfl⟩
        have a2 : IntKind.i64.wrap (16 * y4 + y5) = Z2 := by rw [hZ2]; exact IntWalk.i64_in _ (by omega)
        have F2 : Hid (∀ w, Calls Tryd.prog 29 #[.int .i64 Z2] w fun e w' => e = .returned (.int .i64 (fr8 Z2)) ∧ ∃ n, w' = w.drewN n) := Lib.hid fun w => (s29 Z2 w).mono fun e w' h => ⟨h.1, 0, h.2.symm⟩
        have m3 : IntKind.i64.wrap (16 * y6) = 16 * y6 := IntWalk.i64_in _ (by omega)
        obtain ⟨Z3, hZ3⟩ : ∃ Z3, Z3 = 16 * y6 + y7 := ⟨_, rfl⟩
        have a3 : IntKind.i64.wrap (16 * y6 + y7) = Z3 := by rw [hZ3]; exact IntWalk.i64_in _ (by omega)
        have F3 : Hid (∀ w, Calls Tryd.prog 29 #[.int .i64 Z3] w fun e w' => e = .returned (.int .i64 (fr8 Z3)) ∧ ∃ n, w' = w.drewN n) := Lib.hid fun w => (s29 Z3 w).mono fun e w' h => ⟨h.1, 0, h.2.symm⟩
        have hRR : R = ⟨fr8 Z0, fr8 Z1, fr8 Z2, fr8 Z3⟩ := by rw [hR, hZ0, hZ1, hZ2, hZ3]; rfl
        have HRE : Hid (R = ⟨fr8 Z0, fr8 Z1, fr8 Z2, fr8 Z3⟩ ∧ E = 0) := Lib.hid ⟨hRR, hE⟩
        have r1 : rec4 W2 w.heap.size 0 0 0 0 := rec4.below (rec4.new w 0 0 0 0 23) hB9 (by omega)
        obtain ⟨⟨c00, c01, c02, c03⟩, f00, f01, f02, f03⟩ := r1.cells
        have G : Below w.heap.size w W2 := Below.trans (bel_al (Below.refl _ _) _) (hB9.mono (by omega))
        have hz : w.heap.size < W2.heap.size := by have := hB9.size; simp at this; omega
        clear r1 hR hE hRR hbd l0 l1 l2 l3 l4 l5 l6 l7 hZ0 hZ1 hZ2 hZ3 ho9 hB9 HPN HPG HX HTN HTL HT0 hTl
        generalize fr8 Z0 = z0 at *
        generalize fr8 Z1 = z1 at *
        generalize fr8 Z2 = z2 at *
        generalize fr8 Z3 = z3 at *
        go_wp2_with fail
        refine wp_region_quiet_tail 37 (by kernel_rfl) (by kernel_rfl) ?_
        simp only [List.take_succ_cons, List.take_zero, List.drop_succ_cons, List.drop_zero]
        repeat (quiet_step ((first | (go_at_call 29; with_reducible exact Calls.quiet_of (F0.out _)) | (go_at_call 29; with_reducible exact Calls.quiet_of (F1.out _)) | (go_at_call 29; with_reducible exact Calls.quiet_of (F2.out _)) | (go_at_call 29; with_reducible exact Calls.quiet_of (F3.out _)))))
        refine wpQuiet_nil ?_
        intro _ hw'
        obtain ⟨nq2, hw''⟩ := hw'
        subst hw''
        go_wp2
        exact bodyPost_ret (v := .tuple #[.agg #[.int .i64 (z0), .int .i64 (z1), .int .i64 (z2), .int .i64 (z3)], .int .i64 0]) (by simp [results, Tryd.results33, go_sem, *]) rfl ⟨by rw [HRE.out.1, HRE.out.2], by first | (go_grown; done) | (go_grown; exact bel_dr (by go_grown <;> exact G) _)⟩

end Go.Proofs.YtmekcgbljpeglaaDoor
