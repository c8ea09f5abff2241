import Derived.Test.YtnjkbmkbifbgkaaProg
import Derived.WalkKit
import Derived.WalkLawsBesides
import Derived.Outline
import Derived.Lib.Walk
import Derived.Deep.QuietTactic
import Derived.BigQuiet
import Derived.RowKit3
import Derived.Deep.LoopGhost
import Derived.Laws.Rows
import Derived.Laws.Tables
import Derived.Laws.CopyOwn
import Derived.Lib.Hide
import Derived.Handy
import Derived.Deep.Onto
import Derived.Test.YtnjkbmkbifbgkaaC16a
namespace Go.Proofs.Ytnjkbmkbifbgkaa
open Go.RowKit
set_option maxHeartbeats 400000
set_option linter.unusedVariables false

set_option maxHeartbeats 8000000 in
theorem k23 (v : Value) (L : KL) (y : Int) (w : World) (h : argK w w.heap.size v L) :
    Calls Try.prog 23 #[v, .int .i64 y] w fun e w' => e = .returned (.int .i64 (backF L y)) ∧ Below w.heap.size w w' := by
  have CR := Lib.hid (fun W (hW : Below w.heap.size w W) => c13 v L W (h.up hW hW.size))
  have C25 := Lib.hid (fun w => c25 y w)
  obtain ⟨ao, cap, rfl, h⟩ := h
  obtain ⟨n, hn⟩ : ∃ n, L.length = n := ⟨_, rfl⟩
  obtain ⟨r, hr⟩ : ∃ r, ris L = r := ⟨_, rfl⟩
  cases r
  · have E : backF L y = -1 := by unfold backF; rw [if_neg (by rw [hr]; decide)]
    rw [hn, hr] at CR
    rw [hn, E]
    clear E hr hn C25 h
    go_enter Try.func23, Try.ntmps23
    go_wp2_with (go_at_call 13; fail)
    (with_reducible refine (CR.out _ (bel_al (bel_al (Below.refl _ _) _) _)).mono ?_)
    rintro e w1 ⟨rfl, hg⟩
    go_wp2
    go_ret
    exact ⟨rfl, bel_trans (bel_al (bel_al (Below.refl w.heap.size w) _) _) hg⟩
  · have E : backF L y = backV L y := by unfold backF; rw [if_pos hr]
    rw [E]
    have eg : ∀ args w, (callFunc 32 args).run Try.prog w = .ok (.enter 32 args) w := enters_of Try.func32 (by kernel_rfl) rfl
    have BZ := Lib.hid (fun h => back_zero hr (y := y) h)
    have BS := Lib.hid (fun i hi h1 h2 => back_step hr (y := y) (i := i) hi h1 h2)
    obtain ⟨c1, c2, c3, c4⟩ := (ris_iff L).1 hr
    have gd := chk_good c1
    have g2 := gd.two
    have g16 := gd.some
    have U := Lib.hid gd.unit
    have UP := Lib.hid gd.up
    rw [hr, hn] at CR
    rw [hn] at h g2 g16 U UP BS c3 c4 ⊢
    clear gd E hr c1
    obtain ⟨g, o, rfl, hblk, hc⟩ := h (by omega)
    clear h
    obtain ⟨R, hR⟩ : ∃ R, backV L y = R := ⟨_, rfl⟩
    rw [hR] at BZ BS ⊢
    have hu0 := cu_lo y
    have hu1 := cu_hi y
    generalize cu y = u at *
    have hmono : ∀ a b, a ≤ b → b < n → decide (u ≤ (kn L a).2) = true → decide (u ≤ (kn L b).2) = true := by
      intro a b hab hb ha
      rw [decide_eq_true_iff] at ha ⊢
      have hm : ∀ k, a + k < n → (kn L a).2 ≤ (kn L (a + k)).2 := by
        intro k
        induction k with
        | zero => intro _; exact Int.le_refl _
        | succ k ih =>
          intro hk
          have := ih (by omega)
          have := c4 (a + k + 1) (by omega) (by omega)
          rw [Nat.add_sub_cancel] at this
          rw [show a + (k + 1) = a + k + 1 by omega]
          omega
      have := hm (b - a) (by omega)
      rw [show a + (b - a) = b by omega] at this
      omega
    obtain ⟨hc1, hc2⟩ := count_lt n hmono
    have C27r := fun W (ca : W.cell? ⟨w.heap.size, 0, none⟩ = some (.slice (some ⟨g, o, none⟩) n cap)) (cx : W.cell? ⟨w.heap.size + 1, 0, none⟩ = some (.int .i64 u)) (hW : Below w.heap.size w W) =>
      c27 32 #[.pointer (some ⟨w.heap.size, 0, none⟩), .pointer (some ⟨w.heap.size + 1, 0, none⟩)] n (fun i => decide (u ≤ (kn L i).2)) W eg (by omega)
        (fun m i hi => c32 w.heap.size (w.heap.size + 1) g o n cap u (kn L i).2 i (W.drewN m) hi ca cx ((hW.cell (p := ⟨g, o + i * 2 + 1, none⟩) hblk).trans (hc i hi).2)) hmono
    generalize (List.range n).countP (fun i => !decide (u ≤ (kn L i).2)) = c at *
    have C27 := Lib.hid C27r
    have HC := Lib.hid (fun (W : World) (hW : Below w.heap.size w W) k (hk : k < n) => (⟨(hW.cell (p := ⟨g, o + k * 2, none⟩) hblk).trans (hc k hk).1, (hW.cell (p := ⟨g, o + k * 2 + 1, none⟩) hblk).trans (hc k hk).2⟩ : W.cell? ⟨g, o + k * 2, none⟩ = some (.int .i64 (kn L k).1) ∧ W.cell? ⟨g, o + k * 2 + 1, none⟩ = some (.int .i64 (kn L k).2)))
    have hblk' := hblk
    have hcn : c < n := by
      rcases Nat.lt_or_ge c n with h | h
      · exact h
      · have := (hc2 (n - 1) (by omega)).2 (by omega)
        rw [decide_eq_false_iff_not, c3] at this
        exact absurd hu1 this
    clear hmono hc eg C27r hR hn c2 c3
    by_cases e0 : c = 0
    · subst e0
      have hle : u ≤ (kn L 0).2 := by
        rcases Int.lt_or_le (kn L 0).2 u with h | h
        · exact absurd ((hc2 0 (by omega)).1 (decide_eq_false (by omega))) (Nat.lt_irrefl 0)
        · exact h
      have HX := Lib.hid (BZ.out hle)
      have hn0 : (0 : Int) < (n : Int) := by omega
      clear hc1 hc2 BZ BS UP hle c4
      go_enter Try.func23, Try.ntmps23
      go_wp2_with (go_at_call 13; fail)
      (with_reducible refine (CR.out _ (bel_al (bel_al (Below.refl _ _) _) _)).mono ?_)
      rintro e w1 ⟨rfl, hg⟩
      have cA : w1.cell? ⟨w.heap.size, 0, none⟩ = some (.slice (some ⟨g, o, none⟩) n cap) := (hg.cell (p := ⟨w.heap.size, 0, none⟩) (by simp; omega)).trans (cell_new2 _ _ _ _ _)
      have cX : w1.cell? ⟨w.heap.size + 1, 0, none⟩ = some (.int .i64 y) := (hg.cell (p := ⟨w.heap.size + 1, 0, none⟩) (by simp)).trans (cell_new3 _ _ _ _ _)
      have cF : w1.frozen? ⟨w.heap.size + 1, 0, none⟩ = false := (hg.frozen (p := ⟨w.heap.size + 1, 0, none⟩) (by simp)).trans (by simp [go_sem])
      have B1 := bel_trans (bel_al (bel_al (Below.refl w.heap.size w) _) _) hg
      have hs1 := hg.size
      simp at hs1
      clear hg
      go_wp2_with (first | (go_at_call 25; (with_reducible refine (C25.out _).mono ?_); rintro e w2 ⟨rfl, rfl⟩) | (go_at_call 27; fail))
      have cA2 : (w1.setCell ⟨w.heap.size + 1, 0, none⟩ (.int .i64 u)).cell? ⟨w.heap.size, 0, none⟩ = some (.slice (some ⟨g, o, none⟩) n cap) := (World.cell?_setCell_other _ _ _ _ (by intro hh; injection hh with h1 h2; omega)).trans cA
      have cX2 : (w1.setCell ⟨w.heap.size + 1, 0, none⟩ (.int .i64 u)).cell? ⟨w.heap.size + 1, 0, none⟩ = some (.int .i64 u) := World.cell?_setCell_same' _ _ _ (by rw [cX]; rfl)
      have B2 : Below w.heap.size w (w1.setCell ⟨w.heap.size + 1, 0, none⟩ (.int .i64 u)) := B1.setCell (by simp) _
      have hs2 : w.heap.size + 1 + 1 ≤ (w1.setCell ⟨w.heap.size + 1, 0, none⟩ (.int .i64 u)).heap.size := by simpa using hs1
      (with_reducible refine (C27.out _ cA2 cX2 B2).mono ?_)
      rintro e w2 ⟨rfl, nq1, hw2⟩
      replace cA : w2.cell? ⟨w.heap.size, 0, none⟩ = some (.slice (some ⟨g, o, none⟩) n cap) := by rw [hw2]; exact cA2
      replace cX : w2.cell? ⟨w.heap.size + 1, 0, none⟩ = some (.int .i64 u) := by rw [hw2]; exact cX2
      replace B1 : Below w.heap.size w w2 := by rw [hw2]; exact bel_dr B2 _
      replace hs1 : w.heap.size + 1 + 1 ≤ w2.heap.size := by rw [hw2]; exact hs2
      clear hw2 cA2 cX2 B2 hs2 cF w1
      have z0 := (HC.out _ B1 0 (by omega)).1
      simp only [Nat.zero_mul, Nat.add_zero, ← HX.out] at z0
      clear HC U CR C27 HX
      go_wp2
      go_ret
      exact ⟨rfl, B1⟩
    · obtain ⟨m, hm⟩ : ∃ m, c = m + 1 := ⟨c - 1, by omega⟩
      have hlt : (kn L m).2 < u := by
        have := (hc2 m (by omega)).2 (by omega)
        rw [decide_eq_false_iff_not] at this
        omega
      have hle : u ≤ (kn L c).2 := by
        rcases Int.lt_or_le (kn L c).2 u with h | h
        · exact absurd ((hc2 c hcn).1 (decide_eq_false (by omega))) (Nat.lt_irrefl c)
        · exact h
      have k1 : IntKind.i64.wrap ((c : Int) - 1) = (m : Int) := by rw [IntWalk.i64_in _ (by omega)]; omega
      have km : (c : Int) - 1 = (m : Int) := by omega
      have kw : IntKind.i64.wrap (m : Int) = (m : Int) := IntWalk.i64_in _ (by omega)
      have kw2 : IntKind.i64.wrap (c : Int) = (c : Int) := IntWalk.i64_in _ (by omega)
      have hm2 : (m : Int) < (n : Int) := by omega
      have hc3 : (c : Int) < (n : Int) := by omega
      have c0 : ((c : Int) == 0) = false := by simp; omega
      have hmn := Lib.hid (show m < n by omega)
      have hcn' := Lib.hid hcn
      have S := BS.out m (by omega) hlt (by rw [← hm]; exact hle)
      rw [← hm] at S
      have bm := U.out m (by omega)
      have bc := U.out c hcn
      have hst := UP.out c (by omega) hcn
      rw [show c - 1 = m by omega] at hst
      clear hc1 hc2 BZ BS UP hm c4 hcn
      go_enter Try.func23, Try.ntmps23
      go_wp2_with (go_at_call 13; fail)
      (with_reducible refine (CR.out _ (bel_al (bel_al (Below.refl _ _) _) _)).mono ?_)
      rintro e w1 ⟨rfl, hg⟩
      have cA : w1.cell? ⟨w.heap.size, 0, none⟩ = some (.slice (some ⟨g, o, none⟩) n cap) := (hg.cell (p := ⟨w.heap.size, 0, none⟩) (by simp; omega)).trans (cell_new2 _ _ _ _ _)
      have cX : w1.cell? ⟨w.heap.size + 1, 0, none⟩ = some (.int .i64 y) := (hg.cell (p := ⟨w.heap.size + 1, 0, none⟩) (by simp)).trans (cell_new3 _ _ _ _ _)
      have cF : w1.frozen? ⟨w.heap.size + 1, 0, none⟩ = false := (hg.frozen (p := ⟨w.heap.size + 1, 0, none⟩) (by simp)).trans (by simp [go_sem])
      have B1 := bel_trans (bel_al (bel_al (Below.refl w.heap.size w) _) _) hg
      have hs1 := hg.size
      simp at hs1
      clear hg
      go_wp2_with (first | (go_at_call 25; (with_reducible refine (C25.out _).mono ?_); rintro e w2 ⟨rfl, rfl⟩) | (go_at_call 27; fail))
      have cA2 : (w1.setCell ⟨w.heap.size + 1, 0, none⟩ (.int .i64 u)).cell? ⟨w.heap.size, 0, none⟩ = some (.slice (some ⟨g, o, none⟩) n cap) := (World.cell?_setCell_other _ _ _ _ (by intro hh; injection hh with h1 h2; omega)).trans cA
      have cX2 : (w1.setCell ⟨w.heap.size + 1, 0, none⟩ (.int .i64 u)).cell? ⟨w.heap.size + 1, 0, none⟩ = some (.int .i64 u) := World.cell?_setCell_same' _ _ _ (by rw [cX]; rfl)
      have B2 : Below w.heap.size w (w1.setCell ⟨w.heap.size + 1, 0, none⟩ (.int .i64 u)) := B1.setCell (by simp) _
      have hs2 : w.heap.size + 1 + 1 ≤ (w1.setCell ⟨w.heap.size + 1, 0, none⟩ (.int .i64 u)).heap.size := by simpa using hs1
      (with_reducible refine (C27.out _ cA2 cX2 B2).mono ?_)
      rintro e w2 ⟨rfl, nq1, hw2⟩
      replace cA : w2.cell? ⟨w.heap.size, 0, none⟩ = some (.slice (some ⟨g, o, none⟩) n cap) := by rw [hw2]; exact cA2
      replace cX : w2.cell? ⟨w.heap.size + 1, 0, none⟩ = some (.int .i64 u) := by rw [hw2]; exact cX2
      replace B1 : Below w.heap.size w w2 := by rw [hw2]; exact bel_dr B2 _
      replace hs1 : w.heap.size + 1 + 1 ≤ w2.heap.size := by rw [hw2]; exact hs2
      clear hw2 cA2 cX2 B2 hs2 cF w1
      have hz := HC.out _ B1
      obtain ⟨z0, z1⟩ := hz m hmn.out
      obtain ⟨z2, z3⟩ := hz c hcn'.out
      clear HC U CR C27 hz hmn hcn'
      generalize kn L m = p at *
      generalize kn L c = q at *
      obtain ⟨x0, y0⟩ := p
      obtain ⟨x1, y1⟩ := q
      dsimp only at *
      obtain ⟨a, ha⟩ : ∃ a, a = u - y0 := ⟨_, rfl⟩
      obtain ⟨a2, ha2⟩ : ∃ a2, a2 = 2 * a := ⟨_, rfl⟩
      obtain ⟨a3, ha3⟩ : ∃ a3, a3 = a2 - 1 := ⟨_, rfl⟩
      obtain ⟨dx, hdx⟩ : ∃ dx, dx = x1 - x0 := ⟨_, rfl⟩
      obtain ⟨dy, hdy⟩ : ∃ dy, dy = y1 - y0 := ⟨_, rfl⟩
      obtain ⟨d2, hd2⟩ : ∃ d2, d2 = 2 * dy := ⟨_, rfl⟩
      obtain ⟨N, hN⟩ : ∃ N, N = a3 * dx := ⟨_, rfl⟩
      obtain ⟨mN, hmN⟩ : ∃ mN, mN = -N := ⟨_, rfl⟩
      have u1 : 0 ≤ N := by rw [hN]; exact Int.mul_nonneg (by omega) (by omega)
      have u2 : N ≤ 131069 * 65535 := by
        rw [hN]
        refine Int.le_trans (Int.mul_le_mul_of_nonneg_right (show a3 ≤ 131069 by omega) (by omega)) ?_
        exact Int.mul_le_mul_of_nonneg_left (by omega) (by omega)
      rw [← ha, ← ha2, ← ha3, ← hdx, ← hdy, ← hd2, ← hN, ← hmN] at S
      have C33 := Lib.hid (fun w => (t12 mN d2 w (by omega) (by omega) (by omega) (by omega)).mono fun e w' ⟨h, h'⟩ => (⟨h, 0, h'.symm⟩ : e = _ ∧ ∃ m, w' = w.drewN m))
      have hF : flo mN d2 = mN.fdiv d2 := by unfold flo; rw [if_neg (by omega), if_neg (by omega)]
      rw [hF] at C33
      have fb1 := Int.mul_fdiv_add_fmod mN d2
      have fb2 := Int.fmod_nonneg_of_pos mN (show 0 < d2 by omega)
      have fb3 := Int.fmod_lt_of_pos mN (show 0 < d2 by omega)
      have fb : -8589607000 ≤ mN.fdiv d2 ∧ mN.fdiv d2 ≤ 0 := by
        generalize mN.fdiv d2 = F at *
        constructor
        · refine Int.not_lt.1 fun hl => ?_
          have := Int.mul_le_mul_of_nonneg_left (show F ≤ -8589607001 by omega) (show 0 ≤ d2 by omega)
          omega
        · refine Int.not_lt.1 fun hl => ?_
          have := Int.mul_le_mul_of_nonneg_left (show 1 ≤ F by omega) (show 0 ≤ d2 by omega)
          omega
      obtain ⟨F, hFF⟩ : ∃ F, mN.fdiv d2 = F := ⟨_, rfl⟩
      rw [hFF] at C33 S fb
      have w1' : IntKind.i64.wrap (u - y0) = a := by rw [IntWalk.i64_in _ (by omega)]; exact ha.symm
      have w2' : IntKind.i64.wrap (2 * a) = a2 := by rw [IntWalk.i64_in _ (by omega)]; exact ha2.symm
      have w3' : IntKind.i64.wrap (a2 - 1) = a3 := by rw [IntWalk.i64_in _ (by omega)]; exact ha3.symm
      have w4' : IntKind.i64.wrap (x1 - x0) = dx := by rw [IntWalk.i64_in _ (by omega)]; exact hdx.symm
      have w5' : IntKind.i64.wrap (a3 * dx) = N := by rw [← hN]; exact IntWalk.i64_in _ (by omega)
      have w6' : IntKind.i64.wrap (-N) = mN := by rw [← hmN]; exact IntWalk.i64_in _ (by omega)
      have w7' : IntKind.i64.wrap (y1 - y0) = dy := by rw [IntWalk.i64_in _ (by omega)]; exact hdy.symm
      have w8' : IntKind.i64.wrap (2 * dy) = d2 := by rw [IntWalk.i64_in _ (by omega)]; exact hd2.symm
      have w9' : IntKind.i64.wrap (x0 - F) = R := by rw [S]; exact IntWalk.i64_in _ (by omega)
      clear ha ha2 ha3 hdx hdy hd2 hN hmN S hF fb1 fb2 fb3 fb hFF u1 u2 bm bc hst hlt hle hu0 hu1
      have y1' : g < w2.heap.size := by omega
      have y2' : w.heap.size < w2.heap.size := by omega
      have y3' : w.heap.size + 1 < w2.heap.size := by omega
      have y0s : g < w2.heap.size + 1 := by omega
      have y0t : g ≤ w2.heap.size := by omega
      have y1s : w.heap.size < w2.heap.size + 1 := by omega
      have y1t : w.heap.size ≤ w2.heap.size := by omega
      have y2s : w.heap.size + 1 < w2.heap.size + 1 := by omega
      have y2t : w.heap.size + 1 ≤ w2.heap.size := by omega
      go_wp2_with fail
      apply wp_at2 (F := fun X => Below w.heap.size w X ∧ X.cell? ⟨w.heap.size + 1, 0, none⟩ = some (.int .i64 u) ∧ X.cell? ⟨w2.heap.size, 0, none⟩ = some (.int .i64 x0) ∧ X.cell? ⟨w2.heap.size, 1, none⟩ = some (.int .i64 y0) ∧ X.cell? ⟨w2.heap.size + 1, 0, none⟩ = some (.int .i64 x1) ∧ X.cell? ⟨w2.heap.size + 1, 1, none⟩ = some (.int .i64 y1))
        (G := fun X => Below w.heap.size w X ∧ X.cell? ⟨w.heap.size + 1, 0, none⟩ = some (.int .i64 u) ∧ X.cell? ⟨w2.heap.size + 1, 0, none⟩ = some (.int .i64 x0) ∧ X.cell? ⟨w2.heap.size + 1, 1, none⟩ = some (.int .i64 y0) ∧ X.cell? ⟨w2.heap.size, 0, none⟩ = some (.int .i64 x1) ∧ X.cell? ⟨w2.heap.size, 1, none⟩ = some (.int .i64 y1))
      case hreg =>
        go_region
        all_goals
          first
          | exact Or.inl ⟨rfl, bel_dr (bel_al (bel_al B1 _) _) 1, ((bel_dr (bel_al (bel_al (Below.refl _ w2) _) _) 1).cell (p := ⟨w.heap.size + 1, 0, none⟩) y3').trans cX, by simp [go_sem], by simp [go_sem], by simp [go_sem], by simp [go_sem]⟩
          | exact Or.inr ⟨rfl, bel_dr (bel_al (bel_al B1 _) _) 1, ((bel_dr (bel_al (bel_al (Below.refl _ w2) _) _) 1).cell (p := ⟨w.heap.size + 1, 0, none⟩) y3').trans cX, by simp [go_sem], by simp [go_sem], by simp [go_sem], by simp [go_sem]⟩
      · clear cA cX B1 z0 z1 z2 z3
        generalize w2.heap.size = M at *
        clear y1s y1t y2s y2t y0s y0t y1' y2' y3' hs1 w2
        rintro W1 ⟨G, cX, p0, p1, p2, p3⟩
        go_wp2_with fail
        go_quiet ((go_at_call 33; exact Calls.quiet_of (C33.out _)))
        go_wp2
        go_ret
        exact ⟨rfl, bel_dr G _⟩
      · clear cA cX B1 z0 z1 z2 z3
        generalize w2.heap.size = M at *
        clear y1s y1t y2s y2t y0s y0t y1' y2' y3' hs1 w2
        rintro W1 ⟨G, cX, p0, p1, p2, p3⟩
        go_wp2_with fail
        go_quiet ((go_at_call 33; exact Calls.quiet_of (C33.out _)))
        go_wp2
        go_ret
        exact ⟨rfl, bel_dr G _⟩

end Go.Proofs.Ytnjkbmkbifbgkaa
