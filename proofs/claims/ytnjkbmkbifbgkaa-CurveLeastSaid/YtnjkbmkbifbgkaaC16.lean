import Derived.Test.YtnjkbmkbifbgkaaProg
import Derived.WalkKit
import Derived.WalkLawsBesides
import Derived.Outline
import Derived.Lib.Walk
import Derived.Deep.QuietTactic
import Derived.BigQuiet
import Derived.RowKit3
import Derived.Deep.LoopGhost
import Derived.Laws.Rows
import Derived.Laws.Tables
import Derived.Laws.CopyOwn
import Derived.Lib.Hide
import Derived.Handy
import Derived.Deep.Onto
import Derived.Test.YtnjkbmkbifbgkaaC16a
namespace Go.Proofs.Ytnjkbmkbifbgkaa
open Go.RowKit
set_option maxHeartbeats 400000
set_option linter.unusedVariables false

set_option maxHeartbeats 8000000 in
theorem k16 (v : Value) (L : KL) (x : Int) (w : World) (h : argK w w.heap.size v L) :
    Calls Try.prog 16 #[v, .int .i64 x] w fun e w' => e = .returned (.int .i64 (atF L x)) ∧ Below w.heap.size w w' := by
  have CK := Lib.hid (fun W (hW : Below w.heap.size w W) => c11 v L W (h.up hW hW.size))
  obtain ⟨ao, cap, rfl, h⟩ := h
  obtain ⟨n, hn⟩ : ∃ n, L.length = n := ⟨_, rfl⟩
  obtain ⟨E, hE⟩ : ∃ E, chk L = E := ⟨_, rfl⟩
  by_cases h0 : E = 0
  · have eg : ∀ args w, (callFunc 28 args).run Try.prog w = .ok (.enter 28 args) w := enters_of Try.func28 (by kernel_rfl) rfl
    have gd := chk_good (hE.trans h0)
    have AL := Lib.hid (fun h => atF_left (L := L) (x := x) (hE.trans h0) h)
    have AS := Lib.hid (fun i hi h1 h2 => atF_seg (L := L) (x := x) (i := i) (hE.trans h0) hi h1 h2)
    have AR := Lib.hid (fun h => atF_right (L := L) (x := x) (hE.trans h0) h)
    have g2 := gd.two
    have g16 := gd.some
    have U := Lib.hid gd.unit
    have UP := Lib.hid gd.up
    subst h0
    rw [hn] at h CK g2 g16 U UP AS AR ⊢
    rw [hE] at CK
    clear gd hE
    obtain ⟨g, o, rfl, hblk, hc⟩ := h (by omega)
    clear h
    have hmono : ∀ a b, a ≤ b → b < n → decide (x < (kn L a).1) = true → decide (x < (kn L b).1) = true := by
      intro a b hab hb ha
      rw [decide_eq_true_iff] at ha ⊢
      have hm : ∀ k, a + k < n → (kn L a).1 ≤ (kn L (a + k)).1 := by
        intro k
        induction k with
        | zero => intro _; exact Int.le_refl _
        | succ k ih =>
          intro hk
          have := ih (by omega)
          have := UP.out (a + k + 1) (by omega) (by omega)
          rw [Nat.add_sub_cancel] at this
          rw [show a + (k + 1) = a + k + 1 by omega]
          omega
      have := hm (b - a) (by omega)
      rw [show a + (b - a) = b by omega] at this
      omega
    obtain ⟨hc1, hc2⟩ := count_lt n hmono
    have C27r := fun W (ca : W.cell? ⟨w.heap.size, 0, none⟩ = some (.slice (some ⟨g, o, none⟩) n cap)) (cx : W.cell? ⟨w.heap.size + 1, 0, none⟩ = some (.int .i64 x)) (hW : Below w.heap.size w W) =>
      c27 28 #[.pointer (some ⟨w.heap.size, 0, none⟩), .pointer (some ⟨w.heap.size + 1, 0, none⟩)] n (fun i => decide (x < (kn L i).1)) W eg (by omega)
        (fun m i hi => c28 w.heap.size (w.heap.size + 1) g o n cap x (kn L i).1 i (W.drewN m) hi ca cx ((hW.cell (p := ⟨g, o + i * 2, none⟩) hblk).trans (hc i hi).1)) hmono
    generalize (List.range n).countP (fun i => !decide (x < (kn L i).1)) = c at *
    have C27 := Lib.hid C27r
    clear C27r
    have HC := Lib.hid (fun (W : World) (hW : Below w.heap.size w W) k (hk : k < n) => (⟨(hW.cell (p := ⟨g, o + k * 2, none⟩) hblk).trans (hc k hk).1, (hW.cell (p := ⟨g, o + k * 2 + 1, none⟩) hblk).trans (hc k hk).2⟩ : W.cell? ⟨g, o + k * 2, none⟩ = some (.int .i64 (kn L k).1) ∧ W.cell? ⟨g, o + k * 2 + 1, none⟩ = some (.int .i64 (kn L k).2)))
    have hblk' := hblk
    clear hmono hc eg
    by_cases e0 : c = 0
    · subst e0
      have hlt : x < (kn L 0).1 := by
        rcases Int.lt_or_le x (kn L 0).1 with h | h
        · exact h
        · exact absurd ((hc2 0 (by omega)).1 (decide_eq_false (by omega))) (Nat.lt_irrefl 0)
      obtain ⟨y0, hy0⟩ : ∃ y0, (kn L 0).2 = y0 := ⟨_, rfl⟩
      rw [AL.out (by omega), hy0]
      have HY := Lib.hid hy0
      clear hy0
      have hn0 : (0 : Int) < (n : Int) := by omega
      clear hc1 hc2 AL AS AR UP hlt
      go_enter Try.func16, Try.ntmps16
      go_wp2_with (go_at_call 11; fail)
      (with_reducible refine (CK.out _ (bel_al (bel_al (Below.refl _ _) _) _)).mono ?_)
      rintro e w1 ⟨rfl, hg⟩
      have cA : w1.cell? ⟨w.heap.size, 0, none⟩ = some (.slice (some ⟨g, o, none⟩) n cap) := (hg.cell (p := ⟨w.heap.size, 0, none⟩) (by simp; omega)).trans (cell_new2 _ _ _ _ _)
      have cX : w1.cell? ⟨w.heap.size + 1, 0, none⟩ = some (.int .i64 x) := (hg.cell (p := ⟨w.heap.size + 1, 0, none⟩) (by simp)).trans (cell_new3 _ _ _ _ _)
      have B1 := bel_trans (bel_al (bel_al (Below.refl w.heap.size w) _) _) hg
      have hs1 := hg.size
      simp at hs1
      clear hg
      go_wp2_with (go_at_call 27; fail)
      (with_reducible refine (C27.out _ cA cX B1).mono ?_)
      rintro e w2 ⟨rfl, nq1, hw2⟩
      replace cA : w2.cell? ⟨w.heap.size, 0, none⟩ = some (.slice (some ⟨g, o, none⟩) n cap) := by rw [hw2]; exact cA
      replace cX : w2.cell? ⟨w.heap.size + 1, 0, none⟩ = some (.int .i64 x) := by rw [hw2]; exact cX
      replace B1 : Below w.heap.size w w2 := by rw [hw2]; exact bel_dr B1 _
      replace hs1 : w.heap.size + 1 + 1 ≤ w2.heap.size := by rw [hw2]; exact hs1
      clear hw2 w1
      have z0 := (HC.out _ B1 0 (by omega)).2
      simp only [Nat.zero_mul, Nat.add_zero, HY.out] at z0
      clear HC U CK C27 HY
      go_wp2
      go_ret
      exact ⟨rfl, B1⟩
    · by_cases en : c = n
      · obtain ⟨l, hl⟩ : ∃ l, n = l + 1 := ⟨n - 1, by omega⟩
        have hle : (kn L l).1 ≤ x := by
          have := (hc2 l (by omega)).2 (by omega)
          rw [decide_eq_false_iff_not] at this
          omega
        have nl : IntKind.i64.wrap ((n : Int) - 1) = (l : Int) := by rw [IntWalk.i64_in _ (by omega)]; omega
        have nl2 : (n : Int) - 1 = (l : Int) := by omega
        have hl2 : (l : Int) < (n : Int) := by omega
        rw [show n - 1 = l by omega] at AR
        obtain ⟨y0, hy0⟩ : ∃ y0, (kn L l).2 = y0 := ⟨_, rfl⟩
        rw [AR.out hle, hy0]
        have HY := Lib.hid hy0
        clear hy0
        have n0 : ((n : Int) == 0) = false := by simp; omega
        have hl3 := Lib.hid (show l < n by omega)
        clear hc1 hc2 AL AS AR UP hle hl e0
        have en2 := en.symm
        clear en
        subst en2
        go_enter Try.func16, Try.ntmps16
        go_wp2_with (go_at_call 11; fail)
        (with_reducible refine (CK.out _ (bel_al (bel_al (Below.refl _ _) _) _)).mono ?_)
        rintro e w1 ⟨rfl, hg⟩
        have cA : w1.cell? ⟨w.heap.size, 0, none⟩ = some (.slice (some ⟨g, o, none⟩) n cap) := (hg.cell (p := ⟨w.heap.size, 0, none⟩) (by simp; omega)).trans (cell_new2 _ _ _ _ _)
        have cX : w1.cell? ⟨w.heap.size + 1, 0, none⟩ = some (.int .i64 x) := (hg.cell (p := ⟨w.heap.size + 1, 0, none⟩) (by simp)).trans (cell_new3 _ _ _ _ _)
        have B1 := bel_trans (bel_al (bel_al (Below.refl w.heap.size w) _) _) hg
        have hs1 := hg.size
        simp at hs1
        clear hg
        go_wp2_with (go_at_call 27; fail)
        (with_reducible refine (C27.out _ cA cX B1).mono ?_)
        rintro e w2 ⟨rfl, nq1, hw2⟩
        replace cA : w2.cell? ⟨w.heap.size, 0, none⟩ = some (.slice (some ⟨g, o, none⟩) n cap) := by rw [hw2]; exact cA
        replace cX : w2.cell? ⟨w.heap.size + 1, 0, none⟩ = some (.int .i64 x) := by rw [hw2]; exact cX
        replace B1 : Below w.heap.size w w2 := by rw [hw2]; exact bel_dr B1 _
        replace hs1 : w.heap.size + 1 + 1 ≤ w2.heap.size := by rw [hw2]; exact hs1
        clear hw2 w1
        have z0 := (HC.out _ B1 l hl3.out).2
        rw [HY.out] at z0
        clear HC U CK C27
        go_wp2
        go_ret
        exact ⟨rfl, B1⟩
      · obtain ⟨m, hm⟩ : ∃ m, c = m + 1 := ⟨c - 1, by omega⟩
        have hle : (kn L m).1 ≤ x := by
          have := (hc2 m (by omega)).2 (by omega)
          rw [decide_eq_false_iff_not] at this
          omega
        have hlt : x < (kn L c).1 := by
          rcases Int.lt_or_le x (kn L c).1 with h | h
          · exact h
          · exact absurd ((hc2 c (by omega)).1 (decide_eq_false (by omega))) (Nat.lt_irrefl c)
        have k1 : IntKind.i64.wrap ((c : Int) - 1) = (m : Int) := by rw [IntWalk.i64_in _ (by omega)]; omega
        have km : (c : Int) - 1 = (m : Int) := by omega
        have kw : IntKind.i64.wrap (m : Int) = (m : Int) := IntWalk.i64_in _ (by omega)
        have kw2 : IntKind.i64.wrap (c : Int) = (c : Int) := IntWalk.i64_in _ (by omega)
        have hm2 : (m : Int) < (n : Int) := by omega
        have hc3 : (c : Int) < (n : Int) := by omega
        have c0 : ((c : Int) == 0) = false := by simp; omega
        have cn : ((c : Int) == (n : Int)) = false := by simp; omega
        have hmn := Lib.hid (show m < n by omega)
        have hcn := Lib.hid (show c < n by omega)
        have S := AS.out m (by omega) hle (by rw [← hm]; exact hlt)
        rw [← hm] at S
        rw [S]
        have bm := U.out m (by omega)
        have bc := U.out c (by omega)
        have hst := UP.out c (by omega) (by omega)
        rw [show c - 1 = m by omega] at hst
        obtain ⟨q1, q2, q3, q4, q5⟩ := seg_eq _ _ x hst hle hlt bm bc
        clear hc1 hc2 AL AS AR UP S hm
        generalize seg (kn L m) (kn L c) x = R at *
        go_enter Try.func16, Try.ntmps16
        go_wp2_with (go_at_call 11; fail)
        (with_reducible refine (CK.out _ (bel_al (bel_al (Below.refl _ _) _) _)).mono ?_)
        rintro e w1 ⟨rfl, hg⟩
        have cA : w1.cell? ⟨w.heap.size, 0, none⟩ = some (.slice (some ⟨g, o, none⟩) n cap) := (hg.cell (p := ⟨w.heap.size, 0, none⟩) (by simp; omega)).trans (cell_new2 _ _ _ _ _)
        have cX : w1.cell? ⟨w.heap.size + 1, 0, none⟩ = some (.int .i64 x) := (hg.cell (p := ⟨w.heap.size + 1, 0, none⟩) (by simp)).trans (cell_new3 _ _ _ _ _)
        have B1 := bel_trans (bel_al (bel_al (Below.refl w.heap.size w) _) _) hg
        have hs1 := hg.size
        simp at hs1
        clear hg
        go_wp2_with (go_at_call 27; fail)
        (with_reducible refine (C27.out _ cA cX B1).mono ?_)
        rintro e w2 ⟨rfl, nq1, hw2⟩
        replace cA : w2.cell? ⟨w.heap.size, 0, none⟩ = some (.slice (some ⟨g, o, none⟩) n cap) := by rw [hw2]; exact cA
        replace cX : w2.cell? ⟨w.heap.size + 1, 0, none⟩ = some (.int .i64 x) := by rw [hw2]; exact cX
        replace B1 : Below w.heap.size w w2 := by rw [hw2]; exact bel_dr B1 _
        replace hs1 : w.heap.size + 1 + 1 ≤ w2.heap.size := by rw [hw2]; exact hs1
        clear hw2 w1
        have hz := HC.out _ B1
        obtain ⟨z0, z1⟩ := hz m hmn.out
        obtain ⟨z2, z3⟩ := hz c hcn.out
        clear HC U CK C27 hz hmn hcn
        generalize kn L m = p at *
        generalize kn L c = q at *
        obtain ⟨x0, y0⟩ := p
        obtain ⟨x1, y1⟩ := q
        dsimp only at *
        obtain ⟨dy, hdy⟩ : ∃ dy, dy = y1 - y0 := ⟨_, rfl⟩
        obtain ⟨dx, hdx⟩ : ∃ dx, dx = x - x0 := ⟨_, rfl⟩
        obtain ⟨d, hd⟩ : ∃ d, d = x1 - x0 := ⟨_, rfl⟩
        rw [← hdy, ← hdx] at q1 q2 q3
        rw [← hd] at q3
        obtain ⟨N, hN⟩ : ∃ N, N = dy * dx := ⟨_, rfl⟩
        rw [← hN] at q1 q2 q3
        have C29 := Lib.hid (fun w => t14 N d w (by omega) (by omega) (by omega) (by omega))
        obtain ⟨D, hD⟩ : ∃ D, dvi N d = D := ⟨_, rfl⟩
        rw [hD] at C29 q3
        have a1 : IntKind.i64.wrap (y1 - y0) = dy := by rw [IntWalk.i64_in _ (by omega)]; exact hdy.symm
        have a2 : IntKind.i64.wrap (x - x0) = dx := by rw [IntWalk.i64_in _ (by omega)]; exact hdx.symm
        have a3 : IntKind.i64.wrap (x1 - x0) = d := by rw [IntWalk.i64_in _ (by omega)]; exact hd.symm
        have a4 : IntKind.i64.wrap (dy * dx) = N := by rw [← hN]; exact IntWalk.i64_in _ (by omega)
        have a5 : IntKind.i64.wrap (y0 + D) = R := by rw [← q3]; exact IntWalk.i64_in _ (by omega)
        clear hdy hdx hd hN hD q1 q2 q3 q4 q5 bm bc hst hle hlt
        go_wp2_with fail
        have y1' : g < w2.heap.size := by omega
        have y2' : w.heap.size < w2.heap.size := by omega
        have y3' : w.heap.size + 1 < w2.heap.size := by omega
        have y0s : g < w2.heap.size + 1 := by omega
        have y0t : g ≤ w2.heap.size := by omega
        have y1s : w.heap.size < w2.heap.size + 1 := by omega
        have y1t : w.heap.size ≤ w2.heap.size := by omega
        have y2s : w.heap.size + 1 < w2.heap.size + 1 := by omega
        have y2t : w.heap.size + 1 ≤ w2.heap.size := by omega
        apply wp_at2 (F := fun X => Below w.heap.size w X ∧ X.cell? ⟨w.heap.size + 1, 0, none⟩ = some (.int .i64 x) ∧ X.cell? ⟨w2.heap.size, 0, none⟩ = some (.int .i64 x0) ∧ X.cell? ⟨w2.heap.size, 1, none⟩ = some (.int .i64 y0) ∧ X.cell? ⟨w2.heap.size + 1, 0, none⟩ = some (.int .i64 x1) ∧ X.cell? ⟨w2.heap.size + 1, 1, none⟩ = some (.int .i64 y1))
          (G := fun X => Below w.heap.size w X ∧ X.cell? ⟨w.heap.size + 1, 0, none⟩ = some (.int .i64 x) ∧ X.cell? ⟨w2.heap.size + 1, 0, none⟩ = some (.int .i64 x0) ∧ X.cell? ⟨w2.heap.size + 1, 1, none⟩ = some (.int .i64 y0) ∧ X.cell? ⟨w2.heap.size, 0, none⟩ = some (.int .i64 x1) ∧ X.cell? ⟨w2.heap.size, 1, none⟩ = some (.int .i64 y1))
        case hreg =>
          go_region
          all_goals
            first
            | exact Or.inl ⟨rfl, bel_dr (bel_al (bel_al B1 _) _) 1, ((bel_dr (bel_al (bel_al (Below.refl _ w2) _) _) 1).cell (p := ⟨w.heap.size + 1, 0, none⟩) y3').trans cX, by simp [go_sem], by simp [go_sem], by simp [go_sem], by simp [go_sem]⟩
            | exact Or.inr ⟨rfl, bel_dr (bel_al (bel_al B1 _) _) 1, ((bel_dr (bel_al (bel_al (Below.refl _ w2) _) _) 1).cell (p := ⟨w.heap.size + 1, 0, none⟩) y3').trans cX, by simp [go_sem], by simp [go_sem], by simp [go_sem], by simp [go_sem]⟩
        · clear cA cX B1 z0 z1 z2 z3
          generalize w2.heap.size = M at *
          clear y1s y1t y2s y2t y0s y0t y1' y2' y3' hs1 w2
          rintro W1 ⟨G, cX, p0, p1, p2, p3⟩
          go_wp2_with fail
          go_quiet ((go_at_call 29; exact Calls.quiet_of (C29.out _)))
          go_wp2
          go_ret
          exact ⟨rfl, bel_dr G _⟩
        · clear cA cX B1 z0 z1 z2 z3
          generalize w2.heap.size = M at *
          clear y1s y1t y2s y2t y0s y0t y1' y2' y3' hs1 w2
          rintro W1 ⟨G, cX, p0, p1, p2, p3⟩
          go_wp2_with fail
          go_quiet ((go_at_call 29; exact Calls.quiet_of (C29.out _)))
          go_wp2
          go_ret
          exact ⟨rfl, bel_dr G _⟩
  · have R := Lib.hid (atF_bad (L := L) (x := x) (fun h => h0 (hE.symm.trans h)))
    rw [hE, hn] at CK
    rw [hn]
    have nE : (E == 0) = false := by simpa using h0
    have C25 := Lib.hid (fun w => c25 x w)
    generalize cu x = u at *
    generalize atF L x = a at *
    clear h hE
    go_enter Try.func16, Try.ntmps16
    go_wp2_with (go_at_call 11; fail)
    (with_reducible refine (CK.out _ (bel_al (bel_al (Below.refl _ _) _) _)).mono ?_)
    rintro e w1 ⟨rfl, hg⟩
    have cx : w1.cell? ⟨w.heap.size + 1, 0, none⟩ = some (.int .i64 x) := (hg.cell (p := ⟨w.heap.size + 1, 0, none⟩) (by simp)).trans (cell_new3 _ _ _ _ _)
    have B1 := bel_trans (bel_al (bel_al (Below.refl w.heap.size w) _) _) hg
    go_wp2_with (go_at_call 25; ((with_reducible refine (C25.out _).mono ?_); rintro e w' ⟨rfl, rfl⟩))
    go_ret
    exact ⟨ret_int R.out.symm, B1⟩

end Go.Proofs.Ytnjkbmkbifbgkaa
