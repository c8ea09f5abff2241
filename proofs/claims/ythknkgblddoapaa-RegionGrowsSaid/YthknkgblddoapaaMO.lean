import Derived.Test.YthknkgblddoapaaProg
import Derived.WalkKit
import Derived.WalkLawsBesides
import Derived.Outline
import Derived.Lib.Walk
import Derived.Deep.QuietTactic
import Derived.BigQuiet
import Derived.RowKit3
import Derived.Deep.LoopGhost
import Derived.Great.Walk
import Derived.Great.BuildSlice
import Derived.Laws.Rows
import Derived.Laws.Tables
import Derived.Laws.CopyOwn
import Derived.Lib.Hide
import Derived.Handy
import Derived.Deep.Onto
import Derived.RegionTactic
import Derived.ChangeAlike
import Derived.Test.YthknkgblddoapaaMK
import Derived.Test.YthknkgblddoapaaML
import Derived.Test.YthknkgblddoapaaMN
import Derived.Test.YthknkgblddoapaaMI
import Derived.Test.YthknkgblddoapaaMH
namespace Go.Proofs.Ythknkgblddoapaa

section
open Go.RowKit
set_option maxHeartbeats 400000
set_option linter.unusedVariables false

theorem canon_none {l : List Rc} (h : Canon l) (hs : ∀ p q, ¬ setL l p q) : l = [] :=
  canon_uniq h ⟨[], ⟨List.Pairwise.nil, fun b hb => by cases hb⟩, rfl⟩ fun p q => ⟨fun e => absurd e (hs p q), fun ⟨t, ht, _⟩ => by cases ht⟩
theorem one_set (a : List Rc) (p q : Int) : setL (buildF a [] 0) p q ↔ setL a p q := by
  rw [(buildF_ok a [] 0).2 p q]
  have : insideF 0 a [] p q = setB a p q := by simp [insideF, setB]
  rw [this, setB_iff]
theorem grow_twice (A : List Rc) (n m : Int) (h0 : 0 ≤ n) (h1 : n ≤ 1048576) (h2 : 0 ≤ m) (h3 : n + m ≤ 1048576) (hl : (buildF (growF (partF A) n) [] 0).length ≤ 256) :
    buildF (growF (partF (buildF (growF (partF A) n) [] 0)) m) [] 0 = buildF (growF (partF A) (n + m)) [] 0 := by
  have hA : ∀ t ∈ partF A, t.emp = false := fun t ht => part_ne ht
  have hG := build_ne (a := growF (partF A) n) (b := []) 0 (growF_ne hA h0 h1) (fun t ht => by cases ht)
  rw [part_self hG hl]
  refine canon_uniq (buildF_ok _ _ _).1 (buildF_ok _ _ _).1 fun p q => ?_
  rw [one_set, one_set]
  exact growF_two hA hG (fun p q => one_set _ p q) h0 h2 h3 p q
theorem grow_in_it (A : List Rc) (n : Int) (h0 : 0 ≤ n) (h1 : n ≤ 1048576) (hl : (buildF (growF (partF A) n) [] 0).length ≤ 256) :
    buildF (partF A) (partF (buildF (growF (partF A) n) [] 0)) 2 = [] := by
  have hA : ∀ t ∈ partF A, t.emp = false := fun t ht => part_ne ht
  have hG := build_ne (a := growF (partF A) n) (b := []) 0 (growF_ne hA h0 h1) (fun t ht => by cases ht)
  rw [part_self hG hl]
  refine canon_none (buildF_ok _ _ _).1 fun p q h => ?_
  have h2 := ((buildF_ok _ _ _).2 p q).1 h
  have e : insideF 2 (partF A) (buildF (growF (partF A) n) [] 0) p q = (setB (partF A) p q && !setB (buildF (growF (partF A) n) [] 0) p q) := by simp [insideF]
  rw [e] at h2
  simp only [Bool.and_eq_true, Bool.not_eq_true'] at h2
  have h3 := growF_sub hA h0 h1 p q ((setB_iff _ _ _).1 h2.1)
  have h4 := (setB_iff _ _ _).2 ((one_set _ p q).2 h3)
  rw [h4] at h2
  cases h2.2
set_option maxHeartbeats 8000000 in
set_option maxRecDepth 100000 in
theorem l9 (u : Value) (A : List Rc) (n m : Int) (w : World) (hu : argR w w.heap.size u A) (cu : capOk u) (bn : -9223372036854775808 ≤ n ∧ n ≤ 9223372036854775807) (bm : -9223372036854775808 ≤ m ∧ m ≤ 9223372036854775807) : Calls Try.prog 9 #[u, .int .i64 n, .int .i64 m] w fun e w' => e = .returned (.bool true) ∧ Below w.heap.size w w' := by
  have hW : Below w.heap.size w w := Below.refl _ _
  have HX := Lib.hid hW
  rcases (show (n < 0 ∨ (¬ n < 0 ∧ 1048576 < n) ∨ (¬ n < 0 ∧ ¬ 1048576 < n ∧ m < 0) ∨ (¬ n < 0 ∧ ¬ 1048576 < n ∧ ¬ m < 0 ∧ 1048576 - n < m)) ∨ (¬ n < 0 ∧ ¬ 1048576 < n ∧ ¬ m < 0 ∧ ¬ 1048576 - n < m) by omega) with (k1 | ⟨k1, k2⟩ | ⟨k1, k2, k3⟩ | ⟨k1, k2, k3, k4⟩) | ⟨k1, k2, k3, k4⟩
  · go_enter Try.func9, Try.ntmps9
    go_wp2_with (go_at_call 16; ((with_reducible refine (c16 _).mono ?_)); rintro e wz ⟨rfl, hg⟩)
    go_ret
    exact ⟨rfl, bel2 HX.out hg (by go_grown)⟩

  · have d1 := decide_eq_false (p := n < 0) k1
    go_enter Try.func9, Try.ntmps9
    go_wp2_with (go_at_call 16; ((with_reducible refine (c16 _).mono ?_)); rintro e wz ⟨rfl, hg⟩)
    go_ret
    exact ⟨rfl, bel2 HX.out hg (by go_grown)⟩

  · have d1 := decide_eq_false (p := n < 0) k1
    have d2 := decide_eq_false (p := 1048576 < n) k2
    go_enter Try.func9, Try.ntmps9
    go_wp2_with (go_at_call 16; ((with_reducible refine (c16 _).mono ?_)); rintro e wz ⟨rfl, hg⟩)
    go_ret
    exact ⟨rfl, bel2 HX.out hg (by go_grown)⟩

  · have d1 := decide_eq_false (p := n < 0) k1
    have d2 := decide_eq_false (p := 1048576 < n) k2
    have d3 := decide_eq_false (p := m < 0) k3
    have e1 : IntKind.i64.wrap (1048576 - n) = 1048576 - n := IntWalk.i64_in _ (by omega)
    go_enter Try.func9, Try.ntmps9
    go_wp2_with (go_at_call 16; ((with_reducible refine (c16 _).mono ?_)); rintro e wz ⟨rfl, hg⟩)
    go_ret
    exact ⟨rfl, bel2 HX.out hg (by go_grown)⟩

  · have d1 := decide_eq_false (p := n < 0) k1
    have d2 := decide_eq_false (p := 1048576 < n) k2
    have d3 := decide_eq_false (p := m < 0) k3
    have d4 := decide_eq_false (p := 1048576 - n < m) k4
    have e1 : IntKind.i64.wrap (1048576 - n) = 1048576 - n := IntWalk.i64_in _ (by omega)
    have e2 : IntKind.i64.wrap (n + m) = n + m := IntWalk.i64_in _ (by omega)
    have mn : min 1048576 (max n 0) = n := by omega
    have mm : min 1048576 (max m 0) = m := by omega
    have mnm : min 1048576 (max (n + m) 0) = n + m := by omega
    have GT := Lib.hid (fun hl => grow_twice A n m (by omega) (by omega) (by omega) (by omega) hl)
    have GI := Lib.hid (fun hl => grow_in_it A n (by omega) (by omega) hl)
    have c1 := fun W h => c31 u A n W h cu
    have c2 := fun W h => c31 u A (n + m) W h cu
    rw [mn] at c1
    rw [mnm] at c2
    have C1 := Lib.hid c1
    have C2 := Lib.hid c2
    have MM := Lib.hid mm
    have lE := build_len (growF (partF A) (n + m)) [] 0 (by unfold growF; rw [List.length_map]; exact partF_len A) (by simp)
    clear mn mm mnm c1 c2
    go_enter Try.func9, Try.ntmps9
    go_wp2_with (go_at_call 31; fail)
    (with_reducible refine (C1.out _ (argR_up hu (by go_grown))).mono ?_)
    rintro e w1 ⟨x0, rfl, hg, hown⟩
    replace hu := argR_up2 hu hg (by go_grown)
    replace hW := bel2 hW hg (by go_grown)
    clear hg
    have hx0 := argR_own hown
    have cx0 := capOk_own hown
    clear hown
    obtain ⟨G, hG⟩ : ∃ G, buildF (growF (partF A) n) [] 0 = G := ⟨_, rfl⟩
    rw [hG] at hx0 GT GI
    obtain ⟨E, hE⟩ : ∃ E, buildF (growF (partF A) (n + m)) [] 0 = E := ⟨_, rfl⟩
    rw [hE] at GT C2 lE
    clear hG hE
    obtain ⟨a0, c0, e0, _⟩ := id hx0
    subst e0
    obtain ⟨n0, hn0⟩ : ∃ n, G.length = n := ⟨_, rfl⟩
    rw [hn0] at hx0 cx0 GT GI ⊢
    clear hn0
    have HW := Lib.hid hW
    by_cases hbig : 256 < n0
    · have i0 : (256 : Int) < (n0 : Int) := by omega
      go_wp2_with (go_at_call 16; ((with_reducible refine (c16 _).mono ?_)); rintro e wz ⟨rfl, hg⟩)
      go_ret
      exact ⟨rfl, bel2 HW.out hg (by go_grown)⟩
    · have i0 := decide_eq_false (p := (256 : Int) < (n0 : Int)) (by omega)
      have i0' := decide_eq_false (p := 256 < n0) hbig
      have gt := GT.out (by omega)
      have gi := GI.out (by omega)
      have c3 := fun W h => c31 (.slice a0 n0 c0) G m W h cx0
      rw [MM.out, gt] at c3
      have c4 := fun W h h' => c21 u (.slice a0 n0 c0) A G W h h' cu cx0
      rw [gi] at c4
      have C3 := Lib.hid c3
      have C4 := Lib.hid c4
      clear gt gi c3 c4
      go_wp2_with (go_at_call 31; fail)
      (with_reducible refine (C3.out _ (argR_up hx0 (by go_grown))).mono ?_)
      rintro e w2 ⟨x1, rfl, hg, hown⟩
      replace hu := argR_up2 hu hg (by go_grown)
      replace hx0 := argR_up2 hx0 hg (by go_grown)
      replace hW := bel2 hW hg (by go_grown)
      clear hg
      have hx1 := argR_own hown
      have cx1 := capOk_own hown
      clear hown
      go_wp2_with (go_at_call 31; fail)
      (with_reducible refine (C2.out _ (argR_up hu (by go_grown))).mono ?_)
      rintro e w3 ⟨x2, rfl, hg, hown⟩
      replace hu := argR_up2 hu hg (by go_grown)
      replace hx0 := argR_up2 hx0 hg (by go_grown)
      replace hx1 := argR_up2 hx1 hg (by go_grown)
      replace hW := bel2 hW hg (by go_grown)
      clear hg
      have hx2 := argR_own hown
      have cx2 := capOk_own hown
      clear hown
      go_wp2_with (go_at_call 12; fail)
      (with_reducible refine (c12b _ _ E E _ true (by simp) (by omega) (by omega) (argR_up hx1 (by go_grown)) (argR_up hx2 (by go_grown))).mono ?_)
      rintro e w4 ⟨rfl, hg⟩
      replace hu := argR_up2 hu hg (by go_grown)
      replace hx0 := argR_up2 hx0 hg (by go_grown)
      replace hx1 := argR_up2 hx1 hg (by go_grown)
      replace hx2 := argR_up2 hx2 hg (by go_grown)
      replace hW := bel2 hW hg (by go_grown)
      clear hg
      go_wp2_with (go_at_call 21; fail)
      (with_reducible refine (C4.out _ (argR_up hu (by go_grown)) (argR_up hx0 (by go_grown))).mono ?_)
      rintro e w5 ⟨x3, rfl, hg, hown⟩
      replace hW := bel2 hW hg (by go_grown)
      obtain ⟨a3, c3, rfl, _⟩ := row_formS hown
      clear hown hg
      go_wp2_with (go_at_call 16; fail)
      (with_reducible refine (c16 _).mono ?_)
      rintro e wz ⟨rfl, hg⟩
      replace hW := bel2 hW hg (by go_grown)
      have HY := Lib.hid hW
      clear hW
      go_wp2
      go_ret
      exact ⟨by simp, HY.out⟩
end

section
open Go.RowKit
set_option maxHeartbeats 400000
set_option linter.unusedVariables false

open Go.ChangeShapes Go.WideShapes Go.ChangeAt Go.RowKit Go.Joins
set_option maxRecDepth 100000 in
theorem openI {H : Type} {enc : TypeId × Value → H} {W : World} {r : Reach} {b0 base : Nat} {spare : Nat → Bool} {held : Bool} {v : Value} {d : DataW H} {p : List MemPlace}
    (hv : Value.okWide Try.prog W r b0 3 v) (h : DataW.Trod enc Try.prog W base spare held 3 v d p) : ∃ x : Int, v = .int .i64 x ∧ True ∧ (Lit.int .i64 x).wf = true := by
  obtain ⟨x, rfl, rfl, rfl, wx⟩ := open_int Try.underlying3 hv h
  exact ⟨x, rfl, trivial, wx⟩
end

section
open Go.RowKit
set_option maxHeartbeats 400000
set_option linter.unusedVariables false

theorem wsum_set (a b : List Rc) (how : Int) (ha : ∀ t ∈ a, t.emp = false) (hb : ∀ t ∈ b, t.emp = false) : wsum (buildF a b how) = areaS (insideF how a b) := by
  rw [wsum_area (fun t ht => ne_inW (build_ne how ha hb t ht)) (build_apart a b how)]
  exact areaS_congr fun p q _ _ _ _ => build_set a b how p q
theorem canon_build (a b : List Rc) (how : Int) : buildF (buildF a b how) [] 0 = buildF a b how := canon_self (buildF_ok a b how).1
theorem area_of (A B : List Rc) (how : Int) (h : (buildF (partF A) (partF B) how).length ≤ 256) : wsum (buildF (partF (buildF (partF A) (partF B) how)) [] 0) = areaS (insideF how (partF A) (partF B)) := by
  rw [build_part A B how h, canon_build, wsum_set _ _ _ (fun t ht => part_ne ht) (fun t ht => part_ne ht)]
theorem area_one (A : List Rc) : wsum (buildF (partF A) [] 0) = areaS (setB (partF A)) := by
  rw [wsum_set _ _ _ (fun t ht => part_ne ht) (fun t ht => by cases ht)]
  exact areaS_congr fun p q _ _ _ _ => by simp [insideF, setB]
theorem areas_uc (a b : List Rc) : areaS (insideF 0 a b) + areaS (insideF 1 a b) = areaS (setB a) + areaS (setB b) := by
  have := areaS_two (setB a) (setB b)
  rw [← this]
  rfl
theorem areas_mc (a b : List Rc) : areaS (insideF 2 a b) + areaS (insideF 1 a b) = areaS (setB a) := by
  have h := areaS_disj (insideF 2 a b) (insideF 1 a b) (fun p q => by simp [insideF]; cases setB a p q <;> cases setB b p q <;> simp)
  rw [← h]
  exact areaS_congr fun p q _ _ _ _ => by simp [insideF]; cases setB a p q <;> cases setB b p q <;> rfl
theorem set_eq {a b c d : List Rc} {h k : Int} (e : ∀ p q, insideF h a b p q = insideF k c d p q) : buildF a b h = buildF c d k :=
  canon_uniq (buildF_ok _ _ _).1 (buildF_ok _ _ _).1 fun p q => by rw [(buildF_ok a b h).2, (buildF_ok c d k).2, e]
theorem mc_union (A B : List Rc) (hM : (buildF (partF A) (partF B) 2).length ≤ 256) (hC : (buildF (partF A) (partF B) 1).length ≤ 256) :
    buildF (partF (buildF (partF A) (partF B) 2)) (partF (buildF (partF A) (partF B) 1)) 0 = buildF (partF A) [] 0 := by
  rw [build_part A B 2 hM, build_part A B 1 hC]
  refine set_eq fun p q => ?_
  have e1 : insideF 0 (buildF (partF A) (partF B) 2) (buildF (partF A) (partF B) 1) p q = (setB (buildF (partF A) (partF B) 2) p q || setB (buildF (partF A) (partF B) 1) p q) := rfl
  have e2 : insideF 0 (partF A) [] p q = (setB (partF A) p q || setB [] p q) := rfl
  rw [e1, e2, build_set, build_set]
  simp [insideF, setB]
  cases (partF A).any (fun t => inB t p q) <;> cases (partF B).any (fun t => inB t p q) <;> rfl
theorem u_comm (a b : List Rc) : buildF b a 0 = buildF a b 0 := set_eq fun p q => by
  show (setB b p q || setB a p q) = (setB a p q || setB b p q)
  exact Bool.or_comm _ _
theorem c_comm (a b : List Rc) : buildF b a 1 = buildF a b 1 := set_eq fun p q => by
  show (setB b p q && setB a p q) = (setB a p q && setB b p q)
  exact Bool.and_comm _ _
theorem mb_none (A B : List Rc) (hM : (buildF (partF A) (partF B) 2).length ≤ 256) : buildF (partF (buildF (partF A) (partF B) 2)) (partF B) 1 = [] := by
  rw [build_part A B 2 hM]
  refine canon_none (buildF_ok _ _ _).1 fun p q h => ?_
  have h2 := ((buildF_ok _ _ _).2 p q).1 h
  have e : insideF 1 (buildF (partF A) (partF B) 2) (partF B) p q = (setB (buildF (partF A) (partF B) 2) p q && setB (partF B) p q) := rfl
  rw [e, build_set] at h2
  have e2 : insideF 2 (partF A) (partF B) p q = (setB (partF A) p q && !setB (partF B) p q) := rfl
  rw [e2] at h2
  generalize setB (partF A) p q = s at h2
  generalize setB (partF B) p q = t at h2
  cases s <;> cases t <;> cases h2
set_option maxHeartbeats 8000000 in
set_option maxRecDepth 100000 in
theorem l8 (u v : Value) (A B : List Rc) (w : World) (hu : argR w w.heap.size u A) (hv : argR w w.heap.size v B) (cu : capOk u) (cv : capOk v) : Calls Try.prog 8 #[u, v] w fun e w' => e = .returned (.bool true) ∧ Below w.heap.size w w' := by
  have hW : Below w.heap.size w w := Below.refl _ _
  have lU := build_len (partF A) (partF B) 0 (partF_len A) (partF_len B)
  have lC := build_len (partF A) (partF B) 1 (partF_len A) (partF_len B)
  have lM := build_len (partF A) (partF B) 2 (partF_len A) (partF_len B)
  have lO := build_len (partF A) [] 0 (partF_len A) (by simp)
  have aU := Lib.hid (area_of A B 0)
  have aC := Lib.hid (area_of A B 1)
  have aM := Lib.hid (area_of A B 2)
  have aA := Lib.hid (area_one A)
  have aB := Lib.hid (area_one B)
  have mc := Lib.hid (mc_union A B)
  have uc := Lib.hid (u_comm (partF A) (partF B))
  have cc := Lib.hid (c_comm (partF A) (partF B))
  have mb := Lib.hid (mb_none A B)
  have s1 := areas_uc (partF A) (partF B)
  have s2 := areas_mc (partF A) (partF B)
  have b0 := areaS_le (insideF 0 (partF A) (partF B))
  have b1 := areaS_le (insideF 1 (partF A) (partF B))
  have b2 := areaS_le (insideF 2 (partF A) (partF B))
  have b3 := areaS_le (setB (partF A))
  have b4 := areaS_le (setB (partF B))
  generalize areaS (insideF 0 (partF A) (partF B)) = z0 at *
  generalize areaS (insideF 1 (partF A) (partF B)) = z1 at *
  generalize areaS (insideF 2 (partF A) (partF B)) = z2 at *
  generalize areaS (setB (partF A)) = zA at *
  generalize areaS (setB (partF B)) = zB at *
  have S1 := Lib.hid s1
  have S2 := Lib.hid s2
  clear s1 s2
  go_enter Try.func8, Try.ntmps8
  go_wp2_with (go_at_call 17; fail)
  (with_reducible refine (c17 u v A B _ (argR_up hu (by go_grown)) (argR_up hv (by go_grown)) cu cv).mono ?_)
  rintro e w1 ⟨x0, rfl, hg, hown⟩
  replace hu := argR_up2 hu hg (by go_grown)
  replace hv := argR_up2 hv hg (by go_grown)
  replace hW := bel2 hW hg (by go_grown)
  clear hg
  have hx0 := argR_own hown
  have cx0 := capOk_own hown
  clear hown
  go_wp2_with (go_at_call 19; fail)
  (with_reducible refine (c19 u v A B _ (argR_up hu (by go_grown)) (argR_up hv (by go_grown)) cu cv).mono ?_)
  rintro e w2 ⟨x1, rfl, hg, hown⟩
  replace hu := argR_up2 hu hg (by go_grown)
  replace hv := argR_up2 hv hg (by go_grown)
  replace hx0 := argR_up2 hx0 hg (by go_grown)
  replace hW := bel2 hW hg (by go_grown)
  clear hg
  have hx1 := argR_own hown
  have cx1 := capOk_own hown
  clear hown
  go_wp2_with (go_at_call 21; fail)
  (with_reducible refine (c21 u v A B _ (argR_up hu (by go_grown)) (argR_up hv (by go_grown)) cu cv).mono ?_)
  rintro e w3 ⟨x2, rfl, hg, hown⟩
  replace hu := argR_up2 hu hg (by go_grown)
  replace hv := argR_up2 hv hg (by go_grown)
  replace hx0 := argR_up2 hx0 hg (by go_grown)
  replace hx1 := argR_up2 hx1 hg (by go_grown)
  replace hW := bel2 hW hg (by go_grown)
  clear hg
  have hx2 := argR_own hown
  have cx2 := capOk_own hown
  clear hown
  obtain ⟨U, hU⟩ : ∃ U, buildF (partF A) (partF B) 0 = U := ⟨_, rfl⟩
  obtain ⟨C, hC⟩ : ∃ C, buildF (partF A) (partF B) 1 = C := ⟨_, rfl⟩
  obtain ⟨M, hM⟩ : ∃ M, buildF (partF A) (partF B) 2 = M := ⟨_, rfl⟩
  obtain ⟨O, hO⟩ : ∃ M, buildF (partF A) [] 0 = M := ⟨_, rfl⟩
  rw [hU] at aU lU hx0 uc
  rw [hC] at aC lC hx1 mc cc
  rw [hM] at aM lM hx2 mc mb
  rw [hO] at mc lO
  have HO := Lib.hid hO
  clear hU hC hM hO
  obtain ⟨a0, c0, e0, _⟩ := id hx0
  obtain ⟨a1, c1, e1, _⟩ := id hx1
  obtain ⟨a2, c2, e2, _⟩ := id hx2
  subst e0 e1 e2
  obtain ⟨n0, hn0⟩ : ∃ n, U.length = n := ⟨_, rfl⟩
  obtain ⟨n1, hn1⟩ : ∃ n, C.length = n := ⟨_, rfl⟩
  obtain ⟨n2, hn2⟩ : ∃ n, M.length = n := ⟨_, rfl⟩
  rw [hn0] at hx0 cx0 lU aU ⊢
  rw [hn1] at hx1 cx1 lC aC mc ⊢
  rw [hn2] at hx2 cx2 lM aM mc mb ⊢
  have HN0 := Lib.hid hn0
  have HN1 := Lib.hid hn1
  have HN2 := Lib.hid hn2
  clear hn0 hn1 hn2
  rcases (show (256 < n0 ∨ (¬ 256 < n0 ∧ 256 < n1) ∨ (¬ 256 < n0 ∧ ¬ 256 < n1 ∧ 256 < n2)) ∨ (¬ 256 < n0 ∧ ¬ 256 < n1 ∧ ¬ 256 < n2) by omega) with hbig | ⟨h0, h1, h2⟩
  · have HX := Lib.hid hW
    rcases hbig with k0 | ⟨k0, k1⟩ | ⟨k0, k1, k2⟩
    · have i0 : (256 : Int) < (n0 : Int) := by omega
      go_wp2_with (go_at_call 16; ((with_reducible refine (c16 _).mono ?_)); rintro e wz ⟨rfl, hg⟩)
      go_ret
      exact ⟨rfl, bel2 HX.out hg (by go_grown)⟩

    · have i0 := decide_eq_false (p := (256 : Int) < (n0 : Int)) (by omega)
      have i0' := decide_eq_false (p := 256 < n0) k0
      have i1 : (256 : Int) < (n1 : Int) := by omega
      go_wp2_with (go_at_call 16; ((with_reducible refine (c16 _).mono ?_)); rintro e wz ⟨rfl, hg⟩)
      go_ret
      exact ⟨rfl, bel2 HX.out hg (by go_grown)⟩

    · have i0 := decide_eq_false (p := (256 : Int) < (n0 : Int)) (by omega)
      have i0' := decide_eq_false (p := 256 < n0) k0
      have i1 := decide_eq_false (p := (256 : Int) < (n1 : Int)) (by omega)
      have i1' := decide_eq_false (p := 256 < n1) k1
      have i2 : (256 : Int) < (n2 : Int) := by omega
      go_wp2_with (go_at_call 16; ((with_reducible refine (c16 _).mono ?_)); rintro e wz ⟨rfl, hg⟩)
      go_ret
      exact ⟨rfl, bel2 HX.out hg (by go_grown)⟩

  · have i0 := decide_eq_false (p := (256 : Int) < (n0 : Int)) (by omega)
    have i0' := decide_eq_false (p := 256 < n0) h0
    have i1 := decide_eq_false (p := (256 : Int) < (n1 : Int)) (by omega)
    have i1' := decide_eq_false (p := 256 < n1) h1
    have i2 := decide_eq_false (p := (256 : Int) < (n2 : Int)) (by omega)
    have i2' := decide_eq_false (p := 256 < n2) h2
    have k1 : IntKind.i64.wrap (z0 + z1) = z0 + z1 := IntWalk.i64_in _ (by omega)
    have k2 : IntKind.i64.wrap (zA + zB) = zA + zB := IntWalk.i64_in _ (by omega)
    have k3 : IntKind.i64.wrap (z2 + z1) = z2 + z1 := IntWalk.i64_in _ (by omega)
    have t1 : (z0 + z1 == zA + zB) = true := by rw [S1.out]; simp
    have t2 : (z2 + z1 == zA) = true := by rw [S2.out]; simp
    have AU := Lib.hid (aU.out (by omega))
    have AC := Lib.hid (aC.out (by omega))
    have AM := Lib.hid (aM.out (by omega))
    have MC := Lib.hid (mc.out (by omega) (by omega))
    have MB := Lib.hid (mb.out (by omega))
    have c1u := fun W h h' => c17 (.slice a2 n2 c2) (.slice a1 n1 c1) M C W h h' cx2 cx1
    rw [MC.out] at c1u
    have C1U := Lib.hid c1u
    have c2o := fun W h => c11 u A W h cu
    rw [HO.out] at c2o
    have C2O := Lib.hid c2o
    have c3u := fun W h h' => c17 v u B A W h h' cv cu
    rw [uc.out] at c3u
    have C3U := Lib.hid c3u
    have c4c := fun W h h' => c19 v u B A W h h' cv cu
    rw [cc.out] at c4c
    have C4C := Lib.hid c4c
    have c5c := fun W h h' => c19 (.slice a2 n2 c2) v M B W h h' cx2 cv
    rw [MB.out] at c5c
    have C5C := Lib.hid c5c
    clear c1u c2o c3u c4c c5c
    go_wp2_with (go_at_call 25; fail)
    (with_reducible refine (d25 _ U _ _ AU.out (argR_up hx0 (by go_grown)) cx0).mono ?_)
    rintro e w4 ⟨rfl, hg⟩
    replace hu := argR_up2 hu hg (by go_grown)
    replace hv := argR_up2 hv hg (by go_grown)
    replace hx0 := argR_up2 hx0 hg (by go_grown)
    replace hx1 := argR_up2 hx1 hg (by go_grown)
    replace hx2 := argR_up2 hx2 hg (by go_grown)
    replace hW := bel2 hW hg (by go_grown)
    clear hg
    go_wp2_with (go_at_call 25; fail)
    (with_reducible refine (d25 _ C _ _ AC.out (argR_up hx1 (by go_grown)) cx1).mono ?_)
    rintro e w5 ⟨rfl, hg⟩
    replace hu := argR_up2 hu hg (by go_grown)
    replace hv := argR_up2 hv hg (by go_grown)
    replace hx0 := argR_up2 hx0 hg (by go_grown)
    replace hx1 := argR_up2 hx1 hg (by go_grown)
    replace hx2 := argR_up2 hx2 hg (by go_grown)
    replace hW := bel2 hW hg (by go_grown)
    clear hg
    go_wp2_with (go_at_call 25; fail)
    (with_reducible refine (d25 _ A _ _ aA.out (argR_up hu (by go_grown)) cu).mono ?_)
    rintro e w6 ⟨rfl, hg⟩
    replace hu := argR_up2 hu hg (by go_grown)
    replace hv := argR_up2 hv hg (by go_grown)
    replace hx0 := argR_up2 hx0 hg (by go_grown)
    replace hx1 := argR_up2 hx1 hg (by go_grown)
    replace hx2 := argR_up2 hx2 hg (by go_grown)
    replace hW := bel2 hW hg (by go_grown)
    clear hg
    go_wp2_with (go_at_call 25; fail)
    (with_reducible refine (d25 _ B _ _ aB.out (argR_up hv (by go_grown)) cv).mono ?_)
    rintro e w7 ⟨rfl, hg⟩
    replace hu := argR_up2 hu hg (by go_grown)
    replace hv := argR_up2 hv hg (by go_grown)
    replace hx0 := argR_up2 hx0 hg (by go_grown)
    replace hx1 := argR_up2 hx1 hg (by go_grown)
    replace hx2 := argR_up2 hx2 hg (by go_grown)
    replace hW := bel2 hW hg (by go_grown)
    clear hg
    go_wp2_with (go_at_call 25; fail)
    (with_reducible refine (d25 _ M _ _ AM.out (argR_up hx2 (by go_grown)) cx2).mono ?_)
    rintro e w8 ⟨rfl, hg⟩
    replace hu := argR_up2 hu hg (by go_grown)
    replace hv := argR_up2 hv hg (by go_grown)
    replace hx0 := argR_up2 hx0 hg (by go_grown)
    replace hx1 := argR_up2 hx1 hg (by go_grown)
    replace hx2 := argR_up2 hx2 hg (by go_grown)
    replace hW := bel2 hW hg (by go_grown)
    clear hg
    go_wp2_with (go_at_call 25; fail)
    (with_reducible refine (d25 _ C _ _ AC.out (argR_up hx1 (by go_grown)) cx1).mono ?_)
    rintro e w9 ⟨rfl, hg⟩
    replace hu := argR_up2 hu hg (by go_grown)
    replace hv := argR_up2 hv hg (by go_grown)
    replace hx0 := argR_up2 hx0 hg (by go_grown)
    replace hx1 := argR_up2 hx1 hg (by go_grown)
    replace hx2 := argR_up2 hx2 hg (by go_grown)
    replace hW := bel2 hW hg (by go_grown)
    clear hg
    go_wp2_with (go_at_call 25; fail)
    (with_reducible refine (d25 _ A _ _ aA.out (argR_up hu (by go_grown)) cu).mono ?_)
    rintro e w10 ⟨rfl, hg⟩
    replace hu := argR_up2 hu hg (by go_grown)
    replace hv := argR_up2 hv hg (by go_grown)
    replace hx0 := argR_up2 hx0 hg (by go_grown)
    replace hx1 := argR_up2 hx1 hg (by go_grown)
    replace hx2 := argR_up2 hx2 hg (by go_grown)
    replace hW := bel2 hW hg (by go_grown)
    clear hg
    go_wp2_with (go_at_call 17; fail)
    (with_reducible refine (C1U.out _ (argR_up hx2 (by go_grown)) (argR_up hx1 (by go_grown))).mono ?_)
    rintro e w11 ⟨y0, rfl, hg, hown⟩
    replace hu := argR_up2 hu hg (by go_grown)
    replace hv := argR_up2 hv hg (by go_grown)
    replace hx0 := argR_up2 hx0 hg (by go_grown)
    replace hx1 := argR_up2 hx1 hg (by go_grown)
    replace hx2 := argR_up2 hx2 hg (by go_grown)
    replace hW := bel2 hW hg (by go_grown)
    clear hg
    have hy0 := argR_own hown
    have cy0 := capOk_own hown
    clear hown
    go_wp2_with (go_at_call 11; fail)
    (with_reducible refine (C2O.out _ (argR_up hu (by go_grown))).mono ?_)
    rintro e w12 ⟨y1, rfl, hg, hown⟩
    replace hu := argR_up2 hu hg (by go_grown)
    replace hv := argR_up2 hv hg (by go_grown)
    replace hx0 := argR_up2 hx0 hg (by go_grown)
    replace hx1 := argR_up2 hx1 hg (by go_grown)
    replace hx2 := argR_up2 hx2 hg (by go_grown)
    replace hy0 := argR_up2 hy0 hg (by go_grown)
    replace hW := bel2 hW hg (by go_grown)
    clear hg
    have hy1 := argR_own hown
    have cy1 := capOk_own hown
    clear hown
    go_wp2_with (go_at_call 12; fail)
    (with_reducible refine (c12b _ _ O O _ true (by simp) (by omega) (by omega) (argR_up hy0 (by go_grown)) (argR_up hy1 (by go_grown))).mono ?_)
    rintro e w13 ⟨rfl, hg⟩
    replace hu := argR_up2 hu hg (by go_grown)
    replace hv := argR_up2 hv hg (by go_grown)
    replace hx0 := argR_up2 hx0 hg (by go_grown)
    replace hx1 := argR_up2 hx1 hg (by go_grown)
    replace hx2 := argR_up2 hx2 hg (by go_grown)
    replace hy0 := argR_up2 hy0 hg (by go_grown)
    replace hy1 := argR_up2 hy1 hg (by go_grown)
    replace hW := bel2 hW hg (by go_grown)
    clear hg
    go_wp2_with (go_at_call 17; fail)
    (with_reducible refine (C3U.out _ (argR_up hv (by go_grown)) (argR_up hu (by go_grown))).mono ?_)
    rintro e w14 ⟨y2, rfl, hg, hown⟩
    replace hu := argR_up2 hu hg (by go_grown)
    replace hv := argR_up2 hv hg (by go_grown)
    replace hx0 := argR_up2 hx0 hg (by go_grown)
    replace hx1 := argR_up2 hx1 hg (by go_grown)
    replace hx2 := argR_up2 hx2 hg (by go_grown)
    replace hy0 := argR_up2 hy0 hg (by go_grown)
    replace hy1 := argR_up2 hy1 hg (by go_grown)
    replace hW := bel2 hW hg (by go_grown)
    clear hg
    have hy2 := argR_own hown
    have cy2 := capOk_own hown
    clear hown
    go_wp2_with (go_at_call 12; fail)
    (with_reducible refine (c12b _ _ U U _ true (by simp) (by have := HN0.out; omega) (by have := HN0.out; omega) (argR_up hx0 (by go_grown)) (argR_up hy2 (by go_grown))).mono ?_)
    rintro e w15 ⟨rfl, hg⟩
    replace hu := argR_up2 hu hg (by go_grown)
    replace hv := argR_up2 hv hg (by go_grown)
    replace hx0 := argR_up2 hx0 hg (by go_grown)
    replace hx1 := argR_up2 hx1 hg (by go_grown)
    replace hx2 := argR_up2 hx2 hg (by go_grown)
    replace hy0 := argR_up2 hy0 hg (by go_grown)
    replace hy1 := argR_up2 hy1 hg (by go_grown)
    replace hy2 := argR_up2 hy2 hg (by go_grown)
    replace hW := bel2 hW hg (by go_grown)
    clear hg
    go_wp2_with (go_at_call 19; fail)
    (with_reducible refine (C4C.out _ (argR_up hv (by go_grown)) (argR_up hu (by go_grown))).mono ?_)
    rintro e w16 ⟨y3, rfl, hg, hown⟩
    replace hu := argR_up2 hu hg (by go_grown)
    replace hv := argR_up2 hv hg (by go_grown)
    replace hx0 := argR_up2 hx0 hg (by go_grown)
    replace hx1 := argR_up2 hx1 hg (by go_grown)
    replace hx2 := argR_up2 hx2 hg (by go_grown)
    replace hy0 := argR_up2 hy0 hg (by go_grown)
    replace hy1 := argR_up2 hy1 hg (by go_grown)
    replace hy2 := argR_up2 hy2 hg (by go_grown)
    replace hW := bel2 hW hg (by go_grown)
    clear hg
    have hy3 := argR_own hown
    have cy3 := capOk_own hown
    clear hown
    go_wp2_with (go_at_call 12; fail)
    (with_reducible refine (c12b _ _ C C _ true (by simp) (by have := HN1.out; omega) (by have := HN1.out; omega) (argR_up hx1 (by go_grown)) (argR_up hy3 (by go_grown))).mono ?_)
    rintro e w17 ⟨rfl, hg⟩
    replace hu := argR_up2 hu hg (by go_grown)
    replace hv := argR_up2 hv hg (by go_grown)
    replace hx0 := argR_up2 hx0 hg (by go_grown)
    replace hx1 := argR_up2 hx1 hg (by go_grown)
    replace hx2 := argR_up2 hx2 hg (by go_grown)
    replace hy0 := argR_up2 hy0 hg (by go_grown)
    replace hy1 := argR_up2 hy1 hg (by go_grown)
    replace hy2 := argR_up2 hy2 hg (by go_grown)
    replace hy3 := argR_up2 hy3 hg (by go_grown)
    replace hW := bel2 hW hg (by go_grown)
    clear hg
    go_wp2_with (go_at_call 19; fail)
    (with_reducible refine (C5C.out _ (argR_up hx2 (by go_grown)) (argR_up hv (by go_grown))).mono ?_)
    rintro e w18 ⟨y4, rfl, hg, hown⟩
    replace hW := bel2 hW hg (by go_grown)
    obtain ⟨a3, c3, rfl, _⟩ := row_formS hown
    clear hown hg
    go_wp2_with (go_at_call 16; fail)
    (with_reducible refine (c16 _).mono ?_)
    rintro e wz ⟨rfl, hg⟩
    replace hW := bel2 hW hg (by go_grown)
    have HY := Lib.hid hW
    clear hW
    go_wp2
    go_ret
    exact ⟨by simp, HY.out⟩
end

end Go.Proofs.Ythknkgblddoapaa
