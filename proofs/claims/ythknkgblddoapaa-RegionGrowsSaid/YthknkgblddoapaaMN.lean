import Derived.Test.YthknkgblddoapaaProg
import Derived.WalkKit
import Derived.WalkLawsBesides
import Derived.Outline
import Derived.Lib.Walk
import Derived.Deep.QuietTactic
import Derived.BigQuiet
import Derived.RowKit3
import Derived.Deep.LoopGhost
import Derived.Great.Walk
import Derived.Great.BuildSlice
import Derived.Laws.Rows
import Derived.Laws.Tables
import Derived.Laws.CopyOwn
import Derived.Lib.Hide
import Derived.Handy
import Derived.Deep.Onto
import Derived.RegionTactic
import Derived.ChangeAlike
import Derived.Deep.RegionHeld3
import Derived.Test.YthknkgblddoapaaMK
import Derived.Test.YthknkgblddoapaaML
namespace Go.Proofs.Ythknkgblddoapaa

section
open Go.RowKit
set_option maxHeartbeats 400000
set_option linter.unusedVariables false

/-- a point of one's own. -/
def ptAt (W : World) (k : Nat) (x y : Int) : Prop := W.cell? ⟨k, 0, none⟩ = some (.int .i64 x) ∧ W.cell? ⟨k, 1, none⟩ = some (.int .i64 y) ∧ k < W.heap.size
theorem pt_up2 {W W' W2 : World} {k : Nat} {x y : Int} (h : ptAt W k x y) (hg : Below W'.heap.size W' W2) (hb : Below W.heap.size W W') : ptAt W2 k x y :=
  ⟨(hg.cell (p := ⟨k, 0, none⟩) (Nat.lt_of_lt_of_le h.2.2 hb.size)).trans ((hb.cell (p := ⟨k, 0, none⟩) h.2.2).trans h.1), (hg.cell (p := ⟨k, 1, none⟩) (Nat.lt_of_lt_of_le h.2.2 hb.size)).trans ((hb.cell (p := ⟨k, 1, none⟩) h.2.2).trans h.2.1), Nat.lt_of_lt_of_le (Nat.lt_of_lt_of_le h.2.2 hb.size) hg.size⟩
theorem build_right (A B : List Rc) (how : Int) : rightF (buildF (partF A) (partF B) how) = true :=
  (right_iff _).2 ⟨(buildF_ok _ _ _).1, build_ne how (fun t ht => part_ne ht) (fun t ht => part_ne ht)⟩
theorem build_part (A B : List Rc) (how : Int) (h : (buildF (partF A) (partF B) how).length ≤ 256) : partF (buildF (partF A) (partF B) how) = buildF (partF A) (partF B) how :=
  part_self (build_ne how (fun t ht => part_ne ht) (fun t ht => part_ne ht)) h
theorem build_set (a b : List Rc) (how : Int) (p q : Int) : setB (buildF a b how) p q = insideF how a b p q := by
  have h1 := (buildF_ok a b how).2 p q
  have h2 := setB_iff (buildF a b how) p q
  cases e : insideF how a b p q
  · cases e2 : setB (buildF a b how) p q
    · rfl
    · rw [h1.1 (h2.1 e2)] at e
      cases e
  · exact h2.2 (h1.2 e)
set_option maxHeartbeats 8000000 in
set_option maxRecDepth 100000 in
theorem l7 (u v : Value) (A B : List Rc) (px py : Int) (w : World) (hu : argR w w.heap.size u A) (hv : argR w w.heap.size v B) (cu : capOk u) (cv : capOk v) : Calls Try.prog 7 #[u, v, .agg #[.int .i64 px, .int .i64 py]] w fun e w' => e = .returned (.bool true) ∧ Below w.heap.size w w' := by
  have hW : Below w.heap.size w w := Below.refl _ _
  have rU := Lib.hid (build_right A B 0)
  have rC := Lib.hid (build_right A B 1)
  have rM := Lib.hid (build_right A B 2)
  have pU := Lib.hid (build_part A B 0)
  have pC := Lib.hid (build_part A B 1)
  have pM := Lib.hid (build_part A B 2)
  have sU := Lib.hid (build_set (partF A) (partF B) 0 px py)
  have sC := Lib.hid (build_set (partF A) (partF B) 1 px py)
  have sM := Lib.hid (build_set (partF A) (partF B) 2 px py)
  have lU := build_len (partF A) (partF B) 0 (partF_len A) (partF_len B)
  have lC := build_len (partF A) (partF B) 1 (partF_len A) (partF_len B)
  have lM := build_len (partF A) (partF B) 2 (partF_len A) (partF_len B)
  have hp : ptAt (w.alloc (.cells #[.int .i64 px, .int .i64 py] 29)) w.heap.size px py := ⟨by simp, by simp, by simp⟩
  go_enter Try.func7, Try.ntmps7
  go_wp2_with (go_at_call 17; fail)
  (with_reducible refine (c17 u v A B _ (argR_up hu (by go_grown)) (argR_up hv (by go_grown)) cu cv).mono ?_)
  rintro e w1 ⟨x0, rfl, hg, hown⟩
  replace hu := argR_up2 hu hg (by go_grown)
  replace hv := argR_up2 hv hg (by go_grown)
  replace hp := pt_up2 hp hg (by go_grown)
  replace hW := bel2 hW hg (by go_grown)
  clear hg
  have hx0 := argR_own hown
  have cx0 := capOk_own hown
  clear hown
  go_wp2_with (go_at_call 19; fail)
  (with_reducible refine (c19 u v A B _ (argR_up hu (by go_grown)) (argR_up hv (by go_grown)) cu cv).mono ?_)
  rintro e w2 ⟨x1, rfl, hg, hown⟩
  replace hu := argR_up2 hu hg (by go_grown)
  replace hv := argR_up2 hv hg (by go_grown)
  replace hx0 := argR_up2 hx0 hg (by go_grown)
  replace hp := pt_up2 hp hg (by go_grown)
  replace hW := bel2 hW hg (by go_grown)
  clear hg
  have hx1 := argR_own hown
  have cx1 := capOk_own hown
  clear hown
  go_wp2_with (go_at_call 21; fail)
  (with_reducible refine (c21 u v A B _ (argR_up hu (by go_grown)) (argR_up hv (by go_grown)) cu cv).mono ?_)
  rintro e w3 ⟨x2, rfl, hg, hown⟩
  replace hu := argR_up2 hu hg (by go_grown)
  replace hv := argR_up2 hv hg (by go_grown)
  replace hx0 := argR_up2 hx0 hg (by go_grown)
  replace hx1 := argR_up2 hx1 hg (by go_grown)
  replace hp := pt_up2 hp hg (by go_grown)
  replace hW := bel2 hW hg (by go_grown)
  clear hg
  have hx2 := argR_own hown
  have cx2 := capOk_own hown
  clear hown
  obtain ⟨U, hU⟩ : ∃ U, buildF (partF A) (partF B) 0 = U := ⟨_, rfl⟩
  obtain ⟨C, hC⟩ : ∃ C, buildF (partF A) (partF B) 1 = C := ⟨_, rfl⟩
  obtain ⟨M, hM⟩ : ∃ M, buildF (partF A) (partF B) 2 = M := ⟨_, rfl⟩
  rw [hU] at rU pU sU lU hx0
  rw [hC] at rC pC sC lC hx1
  rw [hM] at rM pM sM lM hx2
  clear hU hC hM
  have hx0' := hx0
  have hx1' := hx1
  have hx2' := hx2
  obtain ⟨a0, c0, e0, _⟩ := hx0'
  obtain ⟨a1, c1, e1, _⟩ := hx1'
  obtain ⟨a2, c2, e2, _⟩ := hx2'
  subst e0 e1 e2
  obtain ⟨n0, hn0⟩ : ∃ n, U.length = n := ⟨_, rfl⟩
  obtain ⟨n1, hn1⟩ : ∃ n, C.length = n := ⟨_, rfl⟩
  obtain ⟨n2, hn2⟩ : ∃ n, M.length = n := ⟨_, rfl⟩
  rw [hn0] at hx0 cx0 lU pU ⊢
  rw [hn1] at hx1 cx1 lC pC ⊢
  rw [hn2] at hx2 cx2 lM pM ⊢
  have HN0 := Lib.hid hn0
  have HN1 := Lib.hid hn1
  have HN2 := Lib.hid hn2
  clear hn0 hn1 hn2
  rcases (show (256 < n0 ∨ (¬ 256 < n0 ∧ 256 < n1) ∨ (¬ 256 < n0 ∧ ¬ 256 < n1 ∧ 256 < n2)) ∨ (¬ 256 < n0 ∧ ¬ 256 < n1 ∧ ¬ 256 < n2) by omega) with hbig | ⟨h0, h1, h2⟩
  · have HX := Lib.hid hW
    rcases hbig with k0 | ⟨k0, k1⟩ | ⟨k0, k1, k2⟩
    · have i0 : (256 : Int) < (n0 : Int) := by omega
      go_wp2_with (go_at_call 16; ((with_reducible refine (c16 _).mono ?_)); rintro e wz ⟨rfl, hg⟩)
      go_ret
      exact ⟨rfl, bel2 HX.out hg (by go_grown)⟩
    · have i0 := decide_eq_false (p := (256 : Int) < (n0 : Int)) (by omega)
      have i0' := decide_eq_false (p := 256 < n0) k0
      have i1 : (256 : Int) < (n1 : Int) := by omega
      go_wp2_with (go_at_call 16; ((with_reducible refine (c16 _).mono ?_)); rintro e wz ⟨rfl, hg⟩)
      go_ret
      exact ⟨rfl, bel2 HX.out hg (by go_grown)⟩
    · have i0 := decide_eq_false (p := (256 : Int) < (n0 : Int)) (by omega)
      have i0' := decide_eq_false (p := 256 < n0) k0
      have i1 := decide_eq_false (p := (256 : Int) < (n1 : Int)) (by omega)
      have i1' := decide_eq_false (p := 256 < n1) k1
      have i2 : (256 : Int) < (n2 : Int) := by omega
      go_wp2_with (go_at_call 16; ((with_reducible refine (c16 _).mono ?_)); rintro e wz ⟨rfl, hg⟩)
      go_ret
      exact ⟨rfl, bel2 HX.out hg (by go_grown)⟩
  · have i0 := decide_eq_false (p := (256 : Int) < (n0 : Int)) (by omega)
    have i0' := decide_eq_false (p := 256 < n0) h0
    have i1 := decide_eq_false (p := (256 : Int) < (n1 : Int)) (by omega)
    have i1' := decide_eq_false (p := 256 < n1) h1
    have i2 := decide_eq_false (p := (256 : Int) < (n2 : Int)) (by omega)
    have i2' := decide_eq_false (p := 256 < n2) h2
    have qU : setB (partF U) px py = (setB (partF A) px py || setB (partF B) px py) := by rw [pU.out (by omega), sU.out]; rfl
    have qC : setB (partF C) px py = (setB (partF A) px py && setB (partF B) px py) := by rw [pC.out (by omega), sC.out]; rfl
    have qM : setB (partF M) px py = (setB (partF A) px py && !setB (partF B) px py) := by rw [pM.out (by omega), sM.out]; rfl
    obtain ⟨i, hi⟩ : ∃ i, setB (partF A) px py = i := ⟨_, rfl⟩
    obtain ⟨k, hk⟩ : ∃ k, setB (partF B) px py = k := ⟨_, rfl⟩
    rw [hi, hk] at qU qC qM
    have QU := Lib.hid qU
    have QC := Lib.hid qC
    have QM := Lib.hid qM
    have HI := Lib.hid hi
    have HK := Lib.hid hk
    clear qU qC qM hi hk sU sC sM
    have ca := fun W (hb : Below w3.heap.size w3 W) => d23 u A px py W i HI.out (argR_up hu hb) cu
    have cb := fun W (hb : Below w3.heap.size w3 W) => d23 v B px py W k HK.out (argR_up hv hb) cv
    have CA := Lib.hid ca
    have CB := Lib.hid cb
    obtain ⟨p0, p1, pz⟩ := id hp
    have kp : ∀ W w1 : World, (fun W => Below w3.heap.size w3 W ∧ W.cell? ⟨w.heap.size, 0, none⟩ = some (.int .i64 px) ∧ W.cell? ⟨w.heap.size, 1, none⟩ = some (.int .i64 py)) W → Below W.heap.size W w1 → (fun W => Below w3.heap.size w3 W ∧ W.cell? ⟨w.heap.size, 0, none⟩ = some (.int .i64 px) ∧ W.cell? ⟨w.heap.size, 1, none⟩ = some (.int .i64 py)) w1 := by
      intro W w1 hS hg
      obtain ⟨s0, s1, s2⟩ := hS
      have hz := s0.size
      exact ⟨s0.trans (hg.mono s0.size), (hg.cell (by (try dsimp only); omega)).trans s1, (hg.cell (by (try dsimp only); omega)).trans s2⟩
    have KP := Lib.hid kp
    have hB0 : Below w3.heap.size w3 w3.drew := (Below.refl _ _).drew
    clear kp ca cb
    go_wp2
    go_region_held3 (fun W => Below w3.heap.size w3 W ∧ W.cell? ⟨w.heap.size, 0, none⟩ = some (.int .i64 px) ∧ W.cell? ⟨w.heap.size, 1, none⟩ = some (.int .i64 py))
      (first | exact ⟨hB0, p0, p1⟩ | assumption | exact KP.out _ _ (by assumption) hg | exact KP.out _ _ (by assumption) (Gr.drewN (Gr.refl _) _).1)
      (first | (go_at_call 23; ((with_reducible refine (CA.out _ (And.left (by assumption))).mono ?_)); rintro e wq ⟨rfl, hg⟩) | (go_at_call 23; ((with_reducible refine (CB.out _ (And.left (by assumption))).mono ?_)); rintro e wq ⟨rfl, hg⟩))
    all_goals
      have hBW : Below w3.heap.size w3 _ := And.left (by assumption)
      replace hW := bel2 hW hBW (by go_grown)
      replace hx0 := argR_up hx0 hBW
      replace hx1 := argR_up hx1 hBW
      replace hx2 := argR_up hx2 hBW
      replace hp := pt_up2 hp hBW (by go_grown)
      clear hu hv CA CB KP hB0 p0 p1 pz hBW
      obtain ⟨p0, p1, pz⟩ := id hp
      cases i <;> cases k
      all_goals
        clear p0 p1 pz
        go_wp2_with (go_at_call 14; fail)
        (with_reducible refine (d14 _ U _ true rU.out (argR_up hx0 (by go_grown)) cx0 (by have := HN0.out; omega)).mono ?_)
        rintro e w21 ⟨rfl, hg⟩
        replace hx0 := argR_up2 hx0 hg (by go_grown)
        replace hx1 := argR_up2 hx1 hg (by go_grown)
        replace hx2 := argR_up2 hx2 hg (by go_grown)
        replace hp := pt_up2 hp hg (by go_grown)
        replace hW := bel2 hW hg (by go_grown)
        clear hg
        obtain ⟨p0, p1, pz⟩ := id hp
        clear p0 p1 pz
        go_wp2_with (go_at_call 14; fail)
        (with_reducible refine (d14 _ C _ true rC.out (argR_up hx1 (by go_grown)) cx1 (by have := HN1.out; omega)).mono ?_)
        rintro e w22 ⟨rfl, hg⟩
        replace hx0 := argR_up2 hx0 hg (by go_grown)
        replace hx1 := argR_up2 hx1 hg (by go_grown)
        replace hx2 := argR_up2 hx2 hg (by go_grown)
        replace hp := pt_up2 hp hg (by go_grown)
        replace hW := bel2 hW hg (by go_grown)
        clear hg
        obtain ⟨p0, p1, pz⟩ := id hp
        clear p0 p1 pz
        go_wp2_with (go_at_call 14; fail)
        (with_reducible refine (d14 _ M _ true rM.out (argR_up hx2 (by go_grown)) cx2 (by have := HN2.out; omega)).mono ?_)
        rintro e w23 ⟨rfl, hg⟩
        replace hx0 := argR_up2 hx0 hg (by go_grown)
        replace hx1 := argR_up2 hx1 hg (by go_grown)
        replace hx2 := argR_up2 hx2 hg (by go_grown)
        replace hp := pt_up2 hp hg (by go_grown)
        replace hW := bel2 hW hg (by go_grown)
        clear hg
        obtain ⟨p0, p1, pz⟩ := id hp
        have HP := hp
        go_wp2_with (go_at_call 23; fail)
        (with_reducible refine (d23 _ U px py _ _ QU.out (argR_up hx0 (by go_grown)) cx0).mono ?_)
        rintro e w24 ⟨rfl, hg⟩
        replace hx0 := argR_up2 hx0 hg (by go_grown)
        replace hx1 := argR_up2 hx1 hg (by go_grown)
        replace hx2 := argR_up2 hx2 hg (by go_grown)
        replace hp := pt_up2 hp hg (by go_grown)
        replace hW := bel2 hW hg (by go_grown)
        clear hg
        clear p0 p1 pz HP
        obtain ⟨p0, p1, pz⟩ := id hp
        have HP := hp
        go_wp2_with (go_at_call 23; fail)
        (with_reducible refine (d23 _ C px py _ _ QC.out (argR_up hx1 (by go_grown)) cx1).mono ?_)
        rintro e w25 ⟨rfl, hg⟩
        replace hx0 := argR_up2 hx0 hg (by go_grown)
        replace hx1 := argR_up2 hx1 hg (by go_grown)
        replace hx2 := argR_up2 hx2 hg (by go_grown)
        replace hp := pt_up2 hp hg (by go_grown)
        replace hW := bel2 hW hg (by go_grown)
        clear hg
        clear p0 p1 pz HP
        obtain ⟨p0, p1, pz⟩ := id hp
        have HP := hp
        go_wp2_with (go_at_call 23; fail)
        (with_reducible refine (d23 _ M px py _ _ QM.out (argR_up hx2 (by go_grown)) cx2).mono ?_)
        rintro e w26 ⟨rfl, hg⟩
        replace hx0 := argR_up2 hx0 hg (by go_grown)
        replace hx1 := argR_up2 hx1 hg (by go_grown)
        replace hx2 := argR_up2 hx2 hg (by go_grown)
        replace hp := pt_up2 hp hg (by go_grown)
        replace hW := bel2 hW hg (by go_grown)
        clear hg
        clear p0 p1 pz HP
        obtain ⟨p0, p1, pz⟩ := id hp
        go_wp2_with (go_at_call 16; fail)
        (with_reducible refine (c16 _).mono ?_)
        rintro e w27 ⟨rfl, hg⟩
        replace hx0 := argR_up2 hx0 hg (by go_grown)
        replace hx1 := argR_up2 hx1 hg (by go_grown)
        replace hx2 := argR_up2 hx2 hg (by go_grown)
        replace hp := pt_up2 hp hg (by go_grown)
        replace hW := bel2 hW hg (by go_grown)
        clear hg
        have HX := Lib.hid hW
        clear hW
        go_wp2
        go_ret
        exact ⟨by simp, HX.out⟩
end

end Go.Proofs.Ythknkgblddoapaa
