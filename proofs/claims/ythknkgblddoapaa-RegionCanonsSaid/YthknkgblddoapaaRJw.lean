import Derived.Test.YthknkgblddoapaaProg
import Derived.WalkKit
import Derived.WalkLawsBesides
import Derived.Outline
import Derived.Lib.Walk
import Derived.Deep.QuietTactic
import Derived.BigQuiet
import Derived.RowKit3
import Derived.Deep.LoopGhost
import Derived.Great.Walk
import Derived.Great.BuildSlice
import Derived.Laws.Rows
import Derived.Laws.Tables
import Derived.Laws.CopyOwn
import Derived.Lib.Hide
import Derived.Handy
import Derived.Deep.Onto
import Derived.Deep.RegionHeld3
import Derived.RegionTactic
import Derived.ChangeAlike
import Derived.Test.YthknkgblddoapaaMA
import Derived.Test.YthknkgblddoapaaMB
import Derived.Test.YthknkgblddoapaaMC
import Derived.Test.YthknkgblddoapaaMD
import Derived.Test.YthknkgblddoapaaME
import Derived.Test.YthknkgblddoapaaMG
import Derived.Test.YthknkgblddoapaaMH
import Derived.Test.YthknkgblddoapaaMI
import Derived.Test.YthknkgblddoapaaMJ
import Derived.Test.YthknkgblddoapaaGR1
namespace Go.Proofs.Ythknkgblddoapaa
open Go.RowKit
set_option maxHeartbeats 400000
set_option linter.unusedVariables false

theorem bd_before {pre : List Band} (h : BandsOk pre) (hne : ∀ t ∈ beforeOf pre, t.emp = false) : BD (beforeOf pre) := by
  rcases List.eq_nil_or_concat pre with rfl | ⟨p, c, rfl⟩
  · exact Or.inl rfl
  · rw [List.concat_eq_append] at *
    have e : beforeOf (p ++ [c]) = c.flat := (before_snoc p c).1
    rw [e] at hne ⊢
    exact Or.inr ⟨c, h.2 c (List.mem_append_right _ (List.mem_singleton.2 rfl)), rfl, hne⟩
set_option maxHeartbeats 4000000 in
set_option maxRecDepth 100000 in
theorem c38w (v : Value) (L : List Rc) (w : World) (h : argR w w.heap.size v L) (hl : L.length ≤ 9223372036854775807) (h0 : 0 < L.length) :
    Calls Try.prog 38 #[v] w fun e w' => ResB (RB L L.length) e ∧ Below w.heap.size w w' := by
  obtain ⟨ao, cap, rfl, h⟩ := h
  obtain ⟨g, o, rfl, hblk, hcl⟩ := h h0
  obtain ⟨n, hn⟩ : ∃ n, L.length = n := ⟨_, rfl⟩
  rw [hn] at hcl h0 hl ⊢
  have HN := Lib.hid hn
  have HC := Lib.hid hcl
  obtain ⟨a0, a1, a2, a3⟩ := hcl 0 h0
  simp only [Nat.zero_mul, Nat.add_zero] at a3
  obtain ⟨H0, hY⟩ : ∃ Y, (L.getD 0 Rc.zero).h = Y := ⟨_, rfl⟩
  rw [hY] at a3
  have HY := Lib.hid hY
  clear h hcl hn hY a0 a1 a2
  go_enter Try.func38, Try.ntmps38
  go_wp2
  go_loopw [7] (fun i wr => ∃ k : Nat, k ≤ n ∧ i = .int .i64 (k : Int) ∧ RB L k ∧ Below w.heap.size w wr) (fun i _ => (n - (intOf i).toNat))
  case atStart => exact ⟨0, by omega, rfl, fun j hj => absurd hj (Nat.not_lt_zero j), Below.refl _ _⟩
  case round =>
    obtain ⟨k, hk, rfl, hsm, hnx⟩ := hrel
    have HS := Lib.hid hsm
    clear hsm
    by_cases hlt : k < n
    · obtain ⟨f0, f1, f2, f3⟩ := HC.out k hlt
      replace f0 := (hnx.cell (p := ⟨g, o + k * 4, none⟩) hblk).trans f0
      replace f1 := (hnx.cell (p := ⟨g, o + k * 4 + 1, none⟩) hblk).trans f1
      replace f2 := (hnx.cell (p := ⟨g, o + k * 4 + 2, none⟩) hblk).trans f2
      replace f3 := (hnx.cell (p := ⟨g, o + k * 4 + 3, none⟩) hblk).trans f3

      have kk : IntKind.i64.wrap ((k : Int) + 1) = (k : Int) + 1 := IntWalk.i64_in _ (by omega)
      have ha3 := (hnx.cell (p := ⟨g, o + 3, none⟩) hblk).trans a3
      have hNO : ∀ P : Prop, ¬ P → (RB L n → P) → (false = true ↔ RB L n) := fun P h1 h2 => ⟨(fun e => by cases e), (fun e => absurd (h2 e) h1)⟩
      obtain ⟨S, hS⟩ : ∃ S, L.getD k Rc.zero = S := ⟨_, rfl⟩
      have HSS := Lib.hid hS
      rw [hS] at f0 f1 f2 f3
      clear hS
      have ce := fun W => p15 S.x S.y S.w S.h W
      have hS : (⟨S.x, S.y, S.w, S.h⟩ : Rc) = S := rfl
      rw [hS] at ce
      clear hS
      have hnx0 := Lib.hid (hnx.alloc hnx.size (.cells #[.int .i64 S.x, .int .i64 S.y, .int .i64 S.w, .int .i64 S.h] 33))
      have hsz := hnx.size
      have hB0 : Below (wr.alloc (.cells #[.int .i64 S.x, .int .i64 S.y, .int .i64 S.w, .int .i64 S.h] 33)).heap.size (wr.alloc (.cells #[.int .i64 S.x, .int .i64 S.y, .int .i64 S.w, .int .i64 S.h] 33)) (wr.alloc (.cells #[.int .i64 S.x, .int .i64 S.y, .int .i64 S.w, .int .i64 S.h] 33)).drew := (Below.refl _ _).drew
      have z0 : (wr.alloc (.cells #[.int .i64 S.x, .int .i64 S.y, .int .i64 S.w, .int .i64 S.h] 33)).cell? ⟨wr.heap.size, 0, none⟩ = some (.int .i64 S.x) := by simp
      have z1 : (wr.alloc (.cells #[.int .i64 S.x, .int .i64 S.y, .int .i64 S.w, .int .i64 S.h] 33)).cell? ⟨wr.heap.size, 1, none⟩ = some (.int .i64 S.y) := by simp
      have z2 : (wr.alloc (.cells #[.int .i64 S.x, .int .i64 S.y, .int .i64 S.w, .int .i64 S.h] 33)).cell? ⟨wr.heap.size, 2, none⟩ = some (.int .i64 S.w) := by simp
      have z3 : (wr.alloc (.cells #[.int .i64 S.x, .int .i64 S.y, .int .i64 S.w, .int .i64 S.h] 33)).cell? ⟨wr.heap.size, 3, none⟩ = some (.int .i64 S.h) := by simp
      have hgw : g < wr.heap.size := Nat.lt_of_lt_of_le hblk hnx.size
      have z4 : (wr.alloc (.cells #[.int .i64 S.x, .int .i64 S.y, .int .i64 S.w, .int .i64 S.h] 33)).cell? ⟨g, o + 3, none⟩ = some (.int .i64 H0) := ((Below.refl _ _).alloc (Nat.le_refl _) _ |>.cell (p := ⟨g, o + 3, none⟩) hgw).trans ha3
      have hzW : wr.heap.size + 1 = (wr.alloc (.cells #[.int .i64 S.x, .int .i64 S.y, .int .i64 S.w, .int .i64 S.h] 33)).heap.size := by simp
      have kp : ∀ W w1 : World, (fun W => Below (wr.alloc (.cells #[.int .i64 S.x, .int .i64 S.y, .int .i64 S.w, .int .i64 S.h] 33)).heap.size (wr.alloc (.cells #[.int .i64 S.x, .int .i64 S.y, .int .i64 S.w, .int .i64 S.h] 33)) W ∧ W.cell? ⟨wr.heap.size, 0, none⟩ = some (.int .i64 S.x) ∧ W.cell? ⟨wr.heap.size, 1, none⟩ = some (.int .i64 S.y) ∧ W.cell? ⟨wr.heap.size, 2, none⟩ = some (.int .i64 S.w) ∧ W.cell? ⟨wr.heap.size, 3, none⟩ = some (.int .i64 S.h) ∧ W.cell? ⟨g, o + 3, none⟩ = some (.int .i64 H0)) W → Below W.heap.size W w1 → (fun W => Below (wr.alloc (.cells #[.int .i64 S.x, .int .i64 S.y, .int .i64 S.w, .int .i64 S.h] 33)).heap.size (wr.alloc (.cells #[.int .i64 S.x, .int .i64 S.y, .int .i64 S.w, .int .i64 S.h] 33)) W ∧ W.cell? ⟨wr.heap.size, 0, none⟩ = some (.int .i64 S.x) ∧ W.cell? ⟨wr.heap.size, 1, none⟩ = some (.int .i64 S.y) ∧ W.cell? ⟨wr.heap.size, 2, none⟩ = some (.int .i64 S.w) ∧ W.cell? ⟨wr.heap.size, 3, none⟩ = some (.int .i64 S.h) ∧ W.cell? ⟨g, o + 3, none⟩ = some (.int .i64 H0)) w1 := by
        intro W w1 hS hg
        obtain ⟨s0, s1, s2, s3, s4, s5⟩ := hS
        have hz := s0.size
        exact ⟨s0.trans (hg.mono s0.size), (hg.cell (by (try dsimp only); omega)).trans s1, (hg.cell (by (try dsimp only); omega)).trans s2, (hg.cell (by (try dsimp only); omega)).trans s3, (hg.cell (by (try dsimp only); omega)).trans s4, (hg.cell (by (try dsimp only); omega)).trans s5⟩
      have KP := Lib.hid kp
      clear kp hzW
      have h00 : 0 < n := h0
      have h0i : (0 : Int) < (n : Int) := by omega
      cases hem : S.emp
      · rw [hem] at ce
        have CE := Lib.hid ce
        by_cases hh : S.h = H0
        · have hb := ne_ways S hem
          obtain ⟨_, _, _, _, b1, b2, b3, b4, b5, b6⟩ := hb
          have d1 : (S.h != H0) = false := by simp [hh]
          have d2 : (S.h == H0) = true := by simp [hh]
          have hh2 := Lib.hid hh
          clear hh ce
          go_wp2
          go_region_held3 (fun W => Below (wr.alloc (.cells #[.int .i64 S.x, .int .i64 S.y, .int .i64 S.w, .int .i64 S.h] 33)).heap.size (wr.alloc (.cells #[.int .i64 S.x, .int .i64 S.y, .int .i64 S.w, .int .i64 S.h] 33)) W ∧ W.cell? ⟨wr.heap.size, 0, none⟩ = some (.int .i64 S.x) ∧ W.cell? ⟨wr.heap.size, 1, none⟩ = some (.int .i64 S.y) ∧ W.cell? ⟨wr.heap.size, 2, none⟩ = some (.int .i64 S.w) ∧ W.cell? ⟨wr.heap.size, 3, none⟩ = some (.int .i64 S.h) ∧ W.cell? ⟨g, o + 3, none⟩ = some (.int .i64 H0))
            (first | exact ⟨hB0, z0, z1, z2, z3, z4⟩ | assumption | exact KP.out _ _ (by assumption) hg.1 | exact KP.out _ _ (by assumption) (Gr.drewN (Gr.refl _) _).1)
            (first | (go_at_call 64; ((with_reducible refine (CE.out _).mono ?_)); rintro e w1 ⟨rfl, hg⟩))
          have hBW : Below w.heap.size w _ := hnx0.out.trans (Below.mono (And.left (by assumption)) (by simp; omega))
          obtain ⟨s0, s1, s2, s3, s4, s5⟩ : (fun W => Below (wr.alloc (.cells #[.int .i64 S.x, .int .i64 S.y, .int .i64 S.w, .int .i64 S.h] 33)).heap.size (wr.alloc (.cells #[.int .i64 S.x, .int .i64 S.y, .int .i64 S.w, .int .i64 S.h] 33)) W ∧ W.cell? ⟨wr.heap.size, 0, none⟩ = some (.int .i64 S.x) ∧ W.cell? ⟨wr.heap.size, 1, none⟩ = some (.int .i64 S.y) ∧ W.cell? ⟨wr.heap.size, 2, none⟩ = some (.int .i64 S.w) ∧ W.cell? ⟨wr.heap.size, 3, none⟩ = some (.int .i64 S.h) ∧ W.cell? ⟨g, o + 3, none⟩ = some (.int .i64 H0)) w1 := by assumption
          by_cases hk0 : k = 0
          · have hd := decide_eq_false (p := (0 : Int) < (k : Int)) (by omega)
            have hd2 := decide_eq_false (p := 0 < k) (by omega)
            have HR : Hid (RB L (k + 1)) := Lib.hid (fun i hi => by
              rw [show i = k by omega, HSS.out]
              exact ⟨hem, by rw [HY.out, hh2.out], fun h => by omega⟩)
            have HK := Lib.hid hk0
            clear s1 s2 s3 s4 s5 HS hem hk0
            go_wp2
            go_quiet (fail)
            go_wp2
            go_roundw
            case rel => exact ⟨k + 1, by omega, by have := HK.out; simp; try omega, HR.out, below_drewN hBW _⟩
            case measure => simp [intOf]; omega
          · obtain ⟨p0, p1, p2, p3⟩ := HC.out (k - 1) (by omega)
            have hPe := HS.out (k - 1) (by omega)
            have hb0 := hnx.trans ((Below.refl _ _).mono hsz)
            replace p0 := (hBW.cell (p := ⟨g, o + (k - 1) * 4, none⟩) hblk).trans p0
            replace p2 := (hBW.cell (p := ⟨g, o + (k - 1) * 4 + 2, none⟩) hblk).trans p2
            have hpb := ne_ways _ hPe.1
            obtain ⟨P, hP⟩ : ∃ P, L.getD (k - 1) Rc.zero = P := ⟨_, rfl⟩
            rw [hP] at p0 p2 hpb
            have HPP := Lib.hid hP
            obtain ⟨_, _, _, _, e1, e2, e3, e4, e5, e6⟩ := hpb
            have t0 : IntKind.i64.wrap ((k : Int) - 1) = (k : Int) - 1 := IntWalk.i64_in _ (by omega)
            have t1 : ((k : Int) - 1).toNat = k - 1 := by omega
            have t2 : (0 : Int) ≤ (k : Int) - 1 := by omega
            have t3 : (k : Int) - 1 < (n : Int) := by omega
            have t4 : (0 : Int) < (k : Int) := by omega
            have t4' : 0 < k := by omega
            have t5 : (1 : Int) ≤ (k : Int) := by omega
            have t6 : IntKind.i64.wrap (P.x + P.w) = P.x + P.w := IntWalk.i64_in _ (by omega)
            have t7 : k - 1 < n := by omega
            clear p1 p3 hP hPe hb0 s2 s3 s4 s5
            by_cases hx : S.x ≤ P.x + P.w
            · have HX := Lib.hid (hNO (P.x + P.w < S.x) (by omega) fun h => by rw [← HPP.out, ← HSS.out]; exact (h k hlt).2.2 (by omega))
              clear HS hem
              go_wp2
              go_quiet (fail)
              go_wp2
              go_ret
              exact ⟨⟨_, rfl, HX.out⟩, below_drewN hBW _⟩
            · have hd := decide_eq_false (p := S.x ≤ P.x + P.w) hx
              have HR : Hid (RB L (k + 1)) := Lib.hid (fun i hi => by
                rcases Nat.lt_or_eq_of_le (Nat.le_of_lt_succ hi) with h | h
                · exact HS.out i h
                · subst h
                  rw [HSS.out, HPP.out]
                  exact ⟨hem, by rw [HY.out, hh2.out], fun _ => by omega⟩)
              clear HS hem
              go_wp2
              go_quiet (fail)
              go_wp2
              go_roundw
              case rel => exact ⟨k + 1, by omega, by simp, HR.out, below_drewN hBW _⟩
              case measure => simp [intOf]; omega
        · have HX := Lib.hid (hNO (S.h = H0) hh fun h => by rw [← HSS.out, ← HY.out]; exact (h k hlt).2.1)
          have d1 : (S.h != H0) = true := by simp [hh]
          have d2 : (S.h == H0) = false := by simp [hh]
          clear hem ce HS hh
          go_wp2
          go_region_held3 (fun W => Below (wr.alloc (.cells #[.int .i64 S.x, .int .i64 S.y, .int .i64 S.w, .int .i64 S.h] 33)).heap.size (wr.alloc (.cells #[.int .i64 S.x, .int .i64 S.y, .int .i64 S.w, .int .i64 S.h] 33)) W ∧ W.cell? ⟨wr.heap.size, 0, none⟩ = some (.int .i64 S.x) ∧ W.cell? ⟨wr.heap.size, 1, none⟩ = some (.int .i64 S.y) ∧ W.cell? ⟨wr.heap.size, 2, none⟩ = some (.int .i64 S.w) ∧ W.cell? ⟨wr.heap.size, 3, none⟩ = some (.int .i64 S.h) ∧ W.cell? ⟨g, o + 3, none⟩ = some (.int .i64 H0))
            (first | exact ⟨hB0, z0, z1, z2, z3, z4⟩ | assumption | exact KP.out _ _ (by assumption) hg.1 | exact KP.out _ _ (by assumption) (Gr.drewN (Gr.refl _) _).1)
            (first | (go_at_call 64; ((with_reducible refine (CE.out _).mono ?_)); rintro e w1 ⟨rfl, hg⟩))
          go_wp2
          go_ret
          exact ⟨⟨_, rfl, HX.out⟩, hnx0.out.trans (Below.mono (And.left (by assumption)) (by simp; omega))⟩
      · have HX := Lib.hid (hNO (S.emp = false) (by rw [hem]; simp) fun h => by rw [← HSS.out]; exact (h k hlt).1)
        rw [hem] at ce
        have CE := Lib.hid ce
        clear hem ce HS
        go_wp2
        refine wp_region_held_drew (S := (fun W => Below (wr.alloc (.cells #[.int .i64 S.x, .int .i64 S.y, .int .i64 S.w, .int .i64 S.h] 33)).heap.size (wr.alloc (.cells #[.int .i64 S.x, .int .i64 S.y, .int .i64 S.w, .int .i64 S.h] 33)) W ∧ W.cell? ⟨wr.heap.size, 0, none⟩ = some (.int .i64 S.x) ∧ W.cell? ⟨wr.heap.size, 1, none⟩ = some (.int .i64 S.y) ∧ W.cell? ⟨wr.heap.size, 2, none⟩ = some (.int .i64 S.w) ∧ W.cell? ⟨wr.heap.size, 3, none⟩ = some (.int .i64 S.h) ∧ W.cell? ⟨g, o + 3, none⟩ = some (.int .i64 H0))) (by kernel_rfl) ?_ (fun hHeld => ?_)
        · exact ⟨hB0, z0, z1, z2, z3, z4⟩
        refine held_take (i := 0) (some 12) (.agg #[.int .i64 S.x, .int .i64 S.y, .int .i64 S.w, .int .i64 S.h]) rfl rfl (by kernel_rfl) (by kernel_rfl) (by kernel_rfl) (fun _ _ _ h => h) (by rfl) ?_ (by assumption) ?_
        · intro w hSw
          (try dsimp only at hSw)
          go_simp
        try simp only [Act.put, List.setIfInBounds_toArray, List.set_cons_zero, List.set_cons_succ]
        refine wpAnyH_ready (rs := [1]) (by kernel_rfl) (by simp) ?_
        refine AllReadyH.cons (o := _) rfl (fun K hK => ?_) AllReadyH.nil
        go_simp
        go_at_call 64
        (with_reducible refine (CE.out _).mono ?_)
        rintro e w1 ⟨rfl, hg⟩
        refine hK.out _ _ ?_ (fun hHeld2 => ?_)
        · exact KP.out _ _ (by assumption) hg.1
        clear hK K
        try simp only [Act.put, List.setIfInBounds_toArray, List.set_cons_zero, List.set_cons_succ]
        refine held_take (i := 2) (some 14) (.bool true) rfl rfl (by kernel_rfl) (by kernel_rfl) (by kernel_rfl) (fun _ _ _ h => h) (by rfl) ?_ (by assumption) ?_
        · intro w hSw
          (try dsimp only at hSw)
          go_simp
        try simp only [Act.put, List.setIfInBounds_toArray, List.set_cons_zero, List.set_cons_succ]
        refine held_skip (i := 3) (some 15) rfl rfl (by kernel_rfl) (by kernel_rfl) (by kernel_rfl) (fun _ _ _ h => h) (by rfl) (by assumption) ?_
        try simp only [Act.put, List.setIfInBounds_toArray, List.set_cons_zero, List.set_cons_succ]
        refine held_skip (i := 4) (some 16) rfl rfl (by kernel_rfl) (by kernel_rfl) (by kernel_rfl) (fun _ _ _ h => h) (by rfl) (by assumption) ?_
        try simp only [Act.put, List.setIfInBounds_toArray, List.set_cons_zero, List.set_cons_succ]
        refine held_skip (i := 5) (some 17) rfl rfl (by kernel_rfl) (by kernel_rfl) (by kernel_rfl) (fun _ _ _ h => h) (by rfl) (by assumption) ?_
        try simp only [Act.put, List.setIfInBounds_toArray, List.set_cons_zero, List.set_cons_succ]
        refine held_skip (i := 6) (some 18) rfl rfl (by kernel_rfl) (by kernel_rfl) (by kernel_rfl) (fun _ _ _ h => h) (by rfl) (by assumption) ?_
        try simp only [Act.put, List.setIfInBounds_toArray, List.set_cons_zero, List.set_cons_succ]
        refine held_skip (i := 7) (some 19) rfl rfl (by kernel_rfl) (by kernel_rfl) (by kernel_rfl) (fun _ _ _ h => h) (by rfl) (by assumption) ?_
        try simp only [Act.put, List.setIfInBounds_toArray, List.set_cons_zero, List.set_cons_succ]
        refine held_skip (i := 8) (some 20) rfl rfl (by kernel_rfl) (by kernel_rfl) (by kernel_rfl) (fun _ _ _ h => h) (by rfl) (by assumption) ?_
        try simp only [Act.put, List.setIfInBounds_toArray, List.set_cons_zero, List.set_cons_succ]
        refine held_skip (i := 9) (some 21) rfl rfl (by kernel_rfl) (by kernel_rfl) (by kernel_rfl) (fun _ _ _ h => h) (by rfl) (by assumption) ?_
        try simp only [Act.put, List.setIfInBounds_toArray, List.set_cons_zero, List.set_cons_succ]
        refine held_take (i := 10) (some 22) (.bool true) rfl rfl (by kernel_rfl) (by kernel_rfl) (by kernel_rfl) (fun _ _ _ h => h) (by rfl) ?_ (by assumption) ?_
        · intro w hSw
          (try dsimp only at hSw)
          go_simp
        try simp only [Act.put, List.setIfInBounds_toArray, List.set_cons_zero, List.set_cons_succ]
        refine wpAnyH_done (by kernel_rfl) ?_ _
        go_wp2
        go_ret
        exact ⟨⟨_, rfl, HX.out⟩, hnx0.out.trans (Below.mono (And.left (by assumption)) (by simp; omega))⟩
    · obtain rfl : k = n := by omega
      go_wp2
      go_ret
      exact ⟨⟨true, rfl, ⟨(fun _ => HS.out), (fun _ => rfl)⟩⟩, hnx⟩
set_option maxHeartbeats 4000000 in
set_option maxRecDepth 100000 in
theorem c14w (v : Value) (L : List Rc) (w : World) (h : argR w w.heap.size v L) (cu : capOk v) (hl : L.length ≤ 9223372036854775807) :
    Calls Try.prog 14 #[v] w fun e w' => e = .returned (.bool (rightF L)) ∧ Below w.heap.size w w' := by
  have hNO : Hid (¬ GR [] L → rightF L = false) := Lib.hid fun h1 => by
    cases e : rightF L
    · rfl
    · exact absurd ((right_gr L).1 e) h1
  have hYES : Hid (GR [] L → rightF L = true) := Lib.hid (right_gr L).2
  generalize rightF L = res at *
  obtain ⟨ao, cap, rfl, h0⟩ := id h
  have hcap := cu _ _ _ rfl
  clear h0 cu
  obtain ⟨n, hn⟩ : ∃ n, L.length = n := ⟨_, rfl⟩
  rw [hn] at h hl hcap ⊢
  have HN := Lib.hid hn
  have HA := Lib.hid h
  clear h hn
  go_enter Try.func14, Try.ntmps14
  go_wp2
  go_loopw [0, 3, 4] (fun a ab bt W => ∃ (d : Nat) (pre : List Band) (ao : Option Addr) (cap : Nat), d ≤ n ∧ a = .slice ao (n - d) cap ∧ argR w w.heap.size a (L.drop d) ∧ (n - d ≤ cap ∧ cap ≤ maxLen) ∧ argR w w.heap.size ab (beforeOf pre) ∧ (∀ t ∈ beforeOf pre, t.emp = false) ∧ (beforeOf pre).length ≤ n ∧
    bt = .int .i64 (botF pre) ∧ BandsOk pre ∧ (GR [] L ↔ GR pre (L.drop d)) ∧ Below w.heap.size w W) (fun a _ _ _ => lenOf a)
  case atStart => exact ⟨0, [], ao, cap, Nat.zero_le _, rfl, HA.out, hcap, argR_nil _ _, (fun t ht => by cases ht), Nat.zero_le _, rfl, ⟨List.Pairwise.nil, fun b hb => by cases hb⟩, Iff.rfl, Below.refl _ _⟩
  case round =>
    obtain ⟨d, pre, ao, cap, hd, rfl, hR, hcp, hab, hne, hbl, rfl, hok, hiff, hnx⟩ := hrel
    have hRl : (L.drop d).length = n - d := by rw [List.length_drop, HN.out]
    obtain ⟨R, hRR⟩ : ∃ R, L.drop d = R := ⟨_, rfl⟩
    rw [hRR] at hR hiff hRl
    have HRR := Lib.hid hRR
    clear hRR
    obtain ⟨q, hq⟩ : ∃ q, n - d = q := ⟨_, rfl⟩
    rw [hq] at hR hRl hcp ⊢
    have HIFF := Lib.hid hiff
    have HOK := Lib.hid hok
    have HR := Lib.hid hR
    have HAB := Lib.hid hab
    have HNE := Lib.hid hne
    clear hiff hok hR hab hne
    by_cases hq0 : 0 < q
    · have c1 := c37 ao cap R wr (by rw [hRl]; exact (HR.out.below hnx).mono hnx.size) (by rw [hRl]; exact hcp) (by omega)
      rw [hRl] at c1
      have C1 := Lib.hid c1
      clear c1
      go_wp2_with (go_at_call 37; fail)
      refine C1.out.mono ?_
      rintro e w1 ⟨m, rfl, hfb, nq, rfl⟩
      have hfb0 := hfb
      obtain ⟨m1, m2, m3, m4⟩ := hfb
      rw [hRl] at m2 m4
      have hB : argR w w.heap.size (.slice ao m cap) (R.take m) := argR_take HR.out (by rw [hRl]; exact m2)
      have hBl : (R.take m).length = m := by rw [List.length_take, hRl, Nat.min_eq_left m2]
      have hnx1 : Below w.heap.size w (wr.drewN nq) := below_drewN hnx _
      have HFB := Lib.hid hfb0
      have HB := Lib.hid hB
      clear hfb0 m3 m4 hB
      have C2 := Lib.hid (c38w (.slice ao m cap) (R.take m) (wr.drewN nq) ((HB.out.below hnx1).mono hnx1.size) (by rw [hBl]; unfold maxLen at hcp; omega) (by rw [hBl]; exact m1))
      go_wp2_with (go_at_call 38; fail)
      refine C2.out.mono ?_
      rintro e w2 ⟨⟨r, rfl, hr⟩, hg2⟩
      have HRB := Lib.hid hr
      clear hr
      have hnx2 : Below w.heap.size w w2 := hnx1.trans (hg2.mono hnx1.size)
      cases r
      · have HX := Lib.hid (hNO.out fun h => by
          have := HRB.out.2 (gr_asks HFB.out (HIFF.out.1 h)).1
          cases this)
        clear C1 C2
        go_wp2
        go_ret
        exact ⟨ret_bool HX.out.symm, hnx2⟩
      · have hrb := HRB.out.1 rfl
        obtain ⟨b, hbo, hbf, hby, hbh⟩ := band_of (l := R.take m) (by omega) (fun j hj => by rw [getD_take _ _ _ (by omega), getD_take _ _ _ (by omega)]; exact HFB.out.2.2.1 j (by omega)) hrb
        have hbn : ∀ t ∈ R.take m, t.emp = false := fun t ht => by
          obtain ⟨k, hk, rfl⟩ := List.getElem_of_mem ht
          have := (hrb k hk).1
          rw [List.getD_eq_getElem?_getD, List.getElem?_eq_getElem hk] at this
          exact this
        have hz0 := ne_ways _ (hrb 0 (by omega)).1
        rw [getD_take _ _ _ m1] at hby hbh hz0
        have hB0 := HB.out
        obtain ⟨ao', cap', e0, hc⟩ := hB0
        injection e0 with e1 e2 e3
        clear e2
        subst e1
        subst e3
        obtain ⟨g, o, rfl, hgB, hcl⟩ := hc (by omega)
        obtain ⟨f0, f1, f2, f3⟩ := hcl 0 (by omega)
        rw [getD_take _ _ _ m1] at f1 f3
        simp only [Nat.zero_mul, Nat.add_zero] at f1 f3
        replace f1 := (hnx2.cell (p := ⟨g, o + 1, none⟩) hgB).trans f1
        replace f3 := (hnx2.cell (p := ⟨g, o + 3, none⟩) hgB).trans f3
        have hask := Lib.hid (fun h : GR pre R => (gr_asks HFB.out h).2)
        have HNX := Lib.hid (gr_next (pre := pre) HFB.out hbo hbf hbn)
        obtain ⟨Z, hZ⟩ : ∃ Z, R.getD 0 Rc.zero = Z := ⟨_, rfl⟩
        rw [hZ] at f1 f3 hby hbh hz0 hask
        have hm0 : 0 < m := m1
        have hm0i : (0 : Int) < (m : Int) := by omega
        have HNT := Lib.hid hbn
        clear hc hcl f0 f2 hbn hrb hZ C1 C2 HRB
        obtain ⟨_, _, _, _, z1, z2, z3, z4, z5, z6⟩ := hz0
        by_cases hyb : Z.y < botF pre
        · have HX := Lib.hid (hNO.out fun h => by
            have := (hask.out (HIFF.out.1 h)).1
            omega)
          have HBO := Lib.hid hbo
          clear hbo hby hbh hbf
          go_wp2
          go_ret
          exact ⟨ret_bool HX.out.symm, hnx2⟩
        · have hd := decide_eq_false (p := Z.y < botF pre) hyb
          have hma : ∀ t ∈ beforeOf pre, IntKind.i64.wrap (t.y + t.h) = t.y + t.h := fun t ht => by
            have := ne_ways t (HNE.out t ht)
            exact IntWalk.i64_in _ (by omega)
          have hl1 : (beforeOf pre).length ≤ 1048576 := (bd_before HOK.out HNE.out).len
          have hl2 : (R.take m).length ≤ 1048576 := BD.len (Or.inr ⟨b, hbo, hbf.symm, HNT.out⟩)
          have c3 := c39 _ (.slice (some ⟨g, o, none⟩) m cap) (beforeOf pre) (R.take m) w2 (by omega) (by omega) (by omega) ((HAB.out.below hnx2).mono hnx2.size) ((HB.out.below hnx2).mono hnx2.size) hma
          cases hj : joinedF (beforeOf pre) (R.take m)
          · rw [hj] at c3
            have C3 := Lib.hid c3
            have hnew : Hid (BandsOk (pre ++ [b])) := Lib.hid (bands_pass HOK.out hbo (by rw [hby]; omega) (by rw [hbf]; exact hj))
            have hsn := before_snoc pre b
            have HSN := Lib.hid hsn
            have HBF := Lib.hid hbf
            have HBY := Lib.hid hby
            have HBH := Lib.hid hbh
            have HBL := Lib.hid hBl
            have kw : IntKind.i64.wrap (Z.y + Z.h) = Z.y + Z.h := IntWalk.i64_in _ (by omega)
            clear hbf hby hbh hbo c3 hma hj hask hsn hyb hBl
            by_cases hmc : m < cap
            · have hmci : (m : Int) < (cap : Int) := by omega
              go_wp2_with (go_at_call 39; ((with_reducible refine C3.out.mono ?_)); rintro e w3 ⟨rfl, hg3⟩)
              replace f1 := (hg3.cell (p := ⟨g, o + 1, none⟩) (Nat.lt_of_lt_of_le hgB hnx2.size)).trans f1
              replace f3 := (hg3.cell (p := ⟨g, o + 3, none⟩) (Nat.lt_of_lt_of_le hgB hnx2.size)).trans f3
              have hnx3 := hnx2.trans (hg3.mono hnx2.size)
              go_quiet (fail)
              go_wp2
              go_roundw
              case rel => exact ⟨d + m, pre ++ [b], some ⟨g, o + m * 4, none⟩, cap - m, by omega, by rw [show n - (d + m) = q - m by omega], by rw [show L.drop (d + m) = R.drop m by rw [← HRR.out, List.drop_drop]]; exact argR_skip HR.out (by rw [hRl]; exact m2), by omega, by rw [HSN.out.1, HBF.out]; exact HB.out, (fun t ht => by rw [HSN.out.1, HBF.out] at ht; exact HNT.out t ht), by rw [HSN.out.1, HBF.out, HBL.out]; omega, by rw [HSN.out.2, HBY.out, HBH.out], hnew.out, by rw [show L.drop (d + m) = R.drop m by rw [← HRR.out, List.drop_drop]]; exact HIFF.out.trans HNX.out, below_drewN hnx3 _⟩
              case measure => simp [lenOf]; omega
            · obtain rfl : m = cap := by omega
              obtain rfl : q = m := by omega
              have hd0 : R.drop q = [] := List.drop_of_length_le (by omega)
              have HD := Lib.hid hd0
              clear hd0
              go_wp2_with (go_at_call 39; ((with_reducible refine C3.out.mono ?_)); rintro e w3 ⟨rfl, hg3⟩)
              replace f1 := (hg3.cell (p := ⟨g, o + 1, none⟩) (Nat.lt_of_lt_of_le hgB hnx2.size)).trans f1
              replace f3 := (hg3.cell (p := ⟨g, o + 3, none⟩) (Nat.lt_of_lt_of_le hgB hnx2.size)).trans f3
              have hnx3 := hnx2.trans (hg3.mono hnx2.size)
              go_quiet (fail)
              go_wp2
              go_roundw
              case rel => exact ⟨d + q, pre ++ [b], some ⟨g, o, none⟩, 0, by omega, by rw [show n - (d + q) = 0 by omega], by rw [show L.drop (d + q) = [] by rw [← List.drop_drop, HRR.out, HD.out]]; exact argR_none _ _ _ _, by unfold maxLen; omega, by rw [HSN.out.1, HBF.out]; exact HB.out, (fun t ht => by rw [HSN.out.1, HBF.out] at ht; exact HNT.out t ht), by rw [HSN.out.1, HBF.out, HBL.out]; omega, by rw [HSN.out.2, HBY.out, HBH.out], hnew.out, by rw [show L.drop (d + q) = R.drop q by rw [← HRR.out, List.drop_drop]]; exact HIFF.out.trans HNX.out, below_drewN hnx3 _⟩
              case measure => simp [lenOf]; omega
          · have HX := Lib.hid (hNO.out fun h => by
              have := (hask.out (HIFF.out.1 h)).2
              rw [hj] at this
              cases this)
            rw [hj] at c3
            have C3 := Lib.hid c3
            clear hbo hby hbh hbf c3 hma hj hask
            go_wp2_with (go_at_call 39; ((with_reducible refine C3.out.mono ?_)); rintro e w3 ⟨rfl, hg3⟩)
            go_ret
            exact ⟨ret_bool HX.out.symm, hnx2.trans (hg3.mono hnx2.size)⟩
    · obtain rfl : q = 0 := by omega
      have hR0 : R = [] := List.eq_nil_of_length_eq_zero hRl
      have HX := Lib.hid (hYES.out (HIFF.out.2 ⟨[], by rw [hR0]; rfl, by rw [List.append_nil]; exact HOK.out, fun t ht => by rw [hR0] at ht; cases ht⟩))
      go_wp2
      go_ret
      exact ⟨ret_bool HX.out.symm, hnx⟩
end Go.Proofs.Ythknkgblddoapaa
