/-
  The runs of Clamp, size, Floor, nearest, Div, Mul, Quo and Lerp of package num, of their likes in the specification, and of Mul64 and LeadingZeros64: what each returns, for any integers of its types; the world is as it was, but for draws.
-/
import Derived.Test.YtmafmpgpaioniaaProg
import Derived.WalkKit
import Derived.WalkLawsBesides
import Derived.Lib.Walk
import Derived.Lib.BitFns
import Derived.Lib.ItoaNum
import Derived.Lib.Mul64
import Derived.Laws.Bits64b
import Derived.Laws.BitsAllLaws
import Derived.Laws.Externs
import Derived.Deep.QuietTactic
import Derived.BigQuiet
import Derived.RowKit3
import Derived.Deep.LoopGhost
import Derived.Great.BuildSlice
import Derived.Laws.Rows
import Derived.Laws.Tables
import Derived.Laws.CopyOwn
import Derived.Lib.Hide
import Derived.Test.YtmafmpgpaioniaaPlain
import Derived.Test.YtmafmpgpaioniaaLen
namespace Go.Proofs.Ytmafmpgpaioniaa
open Go.RowKit
set_option maxHeartbeats 400000
set_option linter.unusedVariables false
theorem ret_int {k : IntKind} {a b : Int} (h : a = b) : Ending.returned (.int k a) = .returned (.int k b) := by rw [h]
theorem t16 (x lo hi : Int) (w : World)  :
    Calls Try.prog 29 #[.int .i64 x, .int .i64 lo, .int .i64 hi] w fun e w' => e = .returned (.int .i64 (min hi (max x lo))) ∧ w = w' := by
  go_enter Try.func29, Try.ntmps29
  go_wp2
  go_ret
  exact ⟨rfl, rfl⟩
theorem abs_neg (a : Int) (h : a < 0) (h1 : -9223372036854775808 ≤ a) : IntKind.u64.wrap (-IntKind.u64.wrap a) = (a.natAbs : Int) := by
  rw [IntKind.wrap_u64, IntKind.wrap_u64]; omega
theorem t39 (a : Int) (w : World) (h : -9223372036854775808 ≤ a) (h' : a ≤ 9223372036854775807) :
    Calls Try.prog 40 #[.int .i64 a] w fun e w' => e = .returned (.int .u64 a.natAbs) ∧ w = w' := by
  go_enter Try.func40, Try.ntmps40
  go_wp2
  · have hl : a < 0 := by assumption
    go_ret
    exact ⟨ret_int (abs_neg a hl h), rfl⟩
  · have hl : 0 ≤ a := by assumption
    go_ret
    exact ⟨ret_int (show a = (a.natAbs : Int) by omega), rfl⟩
theorem t37 (a : Int) (w : World) (h : -9223372036854775808 ≤ a) (h' : a ≤ 9223372036854775807) :
    Calls Try.prog 38 #[.int .i64 a] w fun e w' => e = .returned (.int .u64 a.natAbs) ∧ w = w' := by
  go_enter Try.func38, Try.ntmps38
  go_wp2
  · have hl : a < 0 := by assumption
    go_ret
    exact ⟨ret_int (abs_neg a hl h), rfl⟩
  · have hl : 0 ≤ a := by assumption
    go_ret
    exact ⟨ret_int (show a = (a.natAbs : Int) by omega), rfl⟩
theorem t48 (b : Bool) (w : World)  :
    Calls Try.prog 42 #[.bool b] w fun e w' => e = .returned (.int .i64 (if b then -9223372036854775808 else 9223372036854775807)) ∧ w = w' := by
  cases b
  · go_enter Try.func42, Try.ntmps42
    go_wp2
    go_ret
    exact ⟨rfl, rfl⟩
  · go_enter Try.func42, Try.ntmps42
    go_wp2
    go_ret
    exact ⟨rfl, rfl⟩
theorem ret_two {a b c d : Int} (h : a = c) (h' : b = d) : Ending.returned (.tuple #[.int .u64 a, .int .u64 b]) = .returned (.tuple #[.int .u64 c, .int .u64 d]) := by rw [h, h']
theorem maskN (a : Nat) (ha : a < 18446744073709551616) : bits .and .u64 (a : Int) 4294967295 = ((a % 4294967296 : Nat) : Int) := by
  have h := bits_and_u64_nat a 4294967295 ha (by omega)
  have e : a &&& 4294967295 = a % 4294967296 := Nat.and_two_pow_sub_one_eq_mod a 32
  rw [e] at h
  exact h
theorem divN (a : Nat) : (a : Int) / 4294967296 = ((a / 4294967296 : Nat) : Int) := by omega
theorem mulN (a b : Nat) : (a : Int) * (b : Int) = ((a * b : Nat) : Int) := (Int.natCast_mul a b).symm
theorem addN (a b : Nat) : (a : Int) + (b : Int) = ((a + b : Nat) : Int) := (Int.natCast_add a b).symm
theorem wrapN (a : Nat) (ha : a < 18446744073709551616) : IntKind.u64.wrap (a : Int) = (a : Int) := by rw [IntKind.wrap_u64]; omega
theorem wrapM (a : Nat) : IntKind.u64.wrap (a : Int) = ((a % 18446744073709551616 : Nat) : Int) := by rw [IntKind.wrap_u64]; omega
set_option maxHeartbeats 1000000 in
theorem t41 (x y : Nat) (hx : x < 18446744073709551616) (hy : y < 18446744073709551616) (w : World) :
    Calls Try.prog 39 #[.int .u64 x, .int .u64 y] w fun e w' => e = .returned (.tuple #[.int .u64 ((x * y / 18446744073709551616 : Nat) : Int), .int .u64 ((x * y % 18446744073709551616 : Nat) : Int)]) ∧ w = w' := by
  obtain ⟨bd, bt, bw, hhi⟩ := Lib.mul64_hi x y hx hy
  have ba := Lib.half_mul_le (a := x / 4294967296) (b := y / 4294967296) (by omega) (by omega)
  have bb := Lib.half_mul_le (a := x / 4294967296) (b := y % 4294967296) (by omega) (by omega)
  have bc := Lib.half_mul_le (a := x % 4294967296) (b := y / 4294967296) (by omega) (by omega)
  have ba' : x / 4294967296 * (y / 4294967296) < 18446744073709551616 := by omega
  have bb' : x / 4294967296 * (y % 4294967296) < 18446744073709551616 := by omega
  have bc' : x % 4294967296 * (y / 4294967296) < 18446744073709551616 := by omega
  have bh1 : x / 4294967296 * (y / 4294967296) + (x / 4294967296 * (y % 4294967296) + x % 4294967296 * (y % 4294967296) / 4294967296) / 4294967296 < 18446744073709551616 := by omega
  have bh : x / 4294967296 * (y / 4294967296) + (x / 4294967296 * (y % 4294967296) + x % 4294967296 * (y % 4294967296) / 4294967296) / 4294967296 + ((x / 4294967296 * (y % 4294967296) + x % 4294967296 * (y % 4294967296) / 4294967296) % 4294967296 + x % 4294967296 * (y / 4294967296)) / 4294967296 < 18446744073709551616 := by omega
  go_enter Try.func39, Try.ntmps39
  go_wp2
  simp only [maskN x hx, maskN y hy, divN, mulN, addN, wrapN _ bd, wrapN _ bb', wrapN _ bt, maskN _ bt, wrapN _ bc', wrapN _ bw, wrapN _ ba', wrapN _ bh1, wrapN _ bh, wrapM (x * y)]
  rw [hhi]
  go_ret2
  exact ⟨rfl, rfl⟩
theorem t53 (x : Int) (w : World) (h0 : 0 ≤ x) (h1 : x ≤ 18446744073709551615) :
    Calls Try.prog 44 #[.int .u64 x] w fun e w' => e = .returned (.int .i64 (64 - (Lib.bitLen x.toNat : Int))) ∧ w = w' := by
  have l := Lib.bitLen_le x.toNat 64 (by omega) (by omega)
  go_enter Try.func44, Try.ntmps44
  go_wp2_with (go_at_call 45; refine (t50 x _ h0 h1).mono ?_; rintro e w' ⟨rfl, rfl⟩)
  go_ret
  exact ⟨rfl, rfl⟩
theorem flo_unique_pos {a b q : Int} (h1 : 0 < b) (h2 : b * q ≤ a) (h3 : a < b * q + b) : q = flo a b := by
  have h := (flo_rest a b (by omega) (by omega)).1 h1
  generalize flo a b = p at h
  by_cases hl : q < p
  · have : b * (q + 1) ≤ b * p := Int.mul_le_mul_of_nonneg_left (by omega) (by omega)
    rw [Int.mul_add] at this; omega
  · by_cases hg : p < q
    · have : b * (p + 1) ≤ b * q := Int.mul_le_mul_of_nonneg_left (by omega) (by omega)
      rw [Int.mul_add] at this; omega
    · omega
theorem flo_unique_neg {a b q : Int} (hs : ¬ (a = -9223372036854775808 ∧ b = -1)) (h1 : b < 0) (h2 : a ≤ b * q) (h3 : b * q + b < a) : q = flo a b := by
  have h := (flo_rest a b (by omega) hs).2 h1
  generalize flo a b = p at h
  by_cases hl : q < p
  · have : b * p ≤ b * (q + 1) := Int.mul_le_mul_of_nonpos_left (by omega) (by omega)
    rw [Int.mul_add] at this; omega
  · by_cases hg : p < q
    · have : b * q ≤ b * (p + 1) := Int.mul_le_mul_of_nonpos_left (by omega) (by omega)
      rw [Int.mul_add] at this; omega
    · omega
/-- the quotient towards nought is Floor's, or one more where the signs differ and something is left. -/
theorem flo_tdiv (a b : Int) (hb : b ≠ 0) (hs : ¬ (a = -9223372036854775808 ∧ b = -1)) :
    flo a b = if a.tmod b ≠ 0 ∧ (decide (a < 0) != decide (b < 0)) = true then a.tdiv b - 1 else a.tdiv b := by
  have e := Int.mul_tdiv_add_tmod a b
  have r1 : 0 ≤ a → 0 ≤ a.tmod b := fun h => Int.tmod_nonneg b h
  have r2 : a < 0 → a.tmod b ≤ 0 := fun h => by have := Int.tmod_nonneg (a := -a) b (by omega); rw [Int.neg_tmod] at this; omega
  have r3 : (a.tmod b).natAbs < b.natAbs := by
    rw [Int.natAbs_tmod]; exact Nat.mod_lt _ (by omega)
  generalize a.tmod b = r at *
  generalize a.tdiv b = q at *
  symm
  by_cases h1 : 0 < b
  · apply flo_unique_pos h1
    all_goals (split <;> rename_i hc <;> simp only [bne_iff_ne, ne_eq, decide_eq_decide] at hc <;> (try rw [Int.mul_sub]) <;> omega)
  · apply flo_unique_neg hs (by omega)
    all_goals (split <;> rename_i hc <;> simp only [bne_iff_ne, ne_eq, decide_eq_decide] at hc <;> (try rw [Int.mul_sub]) <;> omega)

theorem tdiv_bd (a b : Int) (ha : -9223372036854775808 ≤ a) (ha' : a ≤ 9223372036854775807) (hb : b ≠ 0) (hs : ¬ (a = -9223372036854775808 ∧ b = -1)) :
    -9223372036854775808 ≤ a.tdiv b ∧ a.tdiv b ≤ 9223372036854775807 ∧ (a.tmod b ≠ 0 → -9223372036854775807 ≤ a.tdiv b) := by
  by_cases h1 : b = 1
  · subst h1; simp; omega
  by_cases h2 : b = -1
  · subst h2; simp; omega
  have h : (a.tdiv b).natAbs = a.natAbs / b.natAbs := Int.natAbs_tdiv a b
  have h3 : a.natAbs / b.natAbs ≤ a.natAbs / 2 := Nat.div_le_div_left (by omega) (by omega)
  omega
theorem flo_c1 {a b : Int} (ha : -9223372036854775808 ≤ a) (ha' : a ≤ 9223372036854775807) (hb : b ≠ 0) (hs : ¬ (a = -9223372036854775808 ∧ b = -1))
    (h : a.tmod b = 0) : wrap64 (a.tdiv b) = flo a b := by
  have := tdiv_bd a b ha ha' hb hs
  rw [flo_tdiv a b hb hs, if_neg (by simp [h])]
  exact IntWalk.wrap64_in _ (by omega)
theorem flo_c2 {a b : Int} (ha : -9223372036854775808 ≤ a) (ha' : a ≤ 9223372036854775807) (hb : b ≠ 0) (hs : ¬ (a = -9223372036854775808 ∧ b = -1))
    (h : ¬ a.tmod b = 0) (h2 : (!decide (a < 0) == decide (b < 0)) = true) : wrap64 (wrap64 (a.tdiv b) - 1) = flo a b := by
  have hd := tdiv_bd a b ha ha' hb hs
  have := hd.2.2 h
  rw [flo_tdiv a b hb hs, if_pos ⟨h, by cases h3 : decide (a < 0) <;> cases h4 : decide (b < 0) <;> simp_all⟩]
  rw [IntWalk.wrap64_in (a.tdiv b) (by omega)]
  exact IntWalk.wrap64_in _ (by omega)
theorem flo_c3 {a b : Int} (ha : -9223372036854775808 ≤ a) (ha' : a ≤ 9223372036854775807) (hb : b ≠ 0) (hs : ¬ (a = -9223372036854775808 ∧ b = -1))
    (h : ¬ a.tmod b = 0) (h2 : (a.tmod b != 0) = false ∨ (!decide (a < 0) == decide (b < 0)) = false) : wrap64 (a.tdiv b) = flo a b := by
  have hd := tdiv_bd a b ha ha' hb hs
  have h2' := h2.resolve_left (by simp [h])
  rw [flo_tdiv a b hb hs, if_neg (by rintro ⟨_, h5⟩; cases h3 : decide (a < 0) <;> cases h4 : decide (b < 0) <;> simp_all)]
  exact IntWalk.wrap64_in _ (by omega)
theorem tmod_sign {a b : Int} (h : ¬ a.tmod b = 0) : decide (a.tmod b < 0) = decide (a < 0) := by
  have r1 : 0 ≤ a → 0 ≤ a.tmod b := fun h => Int.tmod_nonneg b h
  have r2 : a < 0 → a.tmod b ≤ 0 := fun h => by have := Int.tmod_nonneg (a := -a) b (by omega); rw [Int.neg_tmod] at this; omega
  rw [decide_eq_decide]; omega
theorem t13 (a b : Int) (w : World) (ha : -9223372036854775808 ≤ a) (ha' : a ≤ 9223372036854775807) (hb : -9223372036854775808 ≤ b) (hb' : b ≤ 9223372036854775807) :
    Calls Try.prog 37 #[.int .i64 a, .int .i64 b] w fun e w' => e = .returned (.int .i64 (flo a b)) ∧ ∃ n, w' = w.drewN n := by
  by_cases h0 : b = 0
  · subst h0
    go_enter Try.func37, Try.ntmps37
    go_wp2
    go_ret
    exact ⟨ret_int (by unfold flo; rfl), 0, rfl⟩
  by_cases hs : a = -9223372036854775808 ∧ b = -1
  · obtain ⟨rfl, rfl⟩ := hs
    go_enter Try.func37, Try.ntmps37
    go_wp2
    go_ret
    exact ⟨ret_int (by unfold flo; rfl), 0, rfl⟩
  have HS := Lib.hid hs
  clear hs
  have hb0 : (b == 0) = false := by simpa using h0
  have hm : (a == -9223372036854775808) = true ∧ (b == -1) = false ∨ (a == -9223372036854775808) = false := by
    have := HS.out; simp at this ⊢; omega
  rcases hm with ⟨hm, hb1⟩ | hm
  all_goals
    go_enter Try.func37, Try.ntmps37
    go_wp2
    go_quiet (fail)
    go_wp2
    · go_ret; exact ⟨ret_int (flo_c1 ha ha' h0 HS.out (by assumption)), _, rfl⟩
    · have h1 : ¬ a.tmod b = 0 := by assumption
      have h2 : (a.tmod b != 0) = true ∧ (!decide (a.tmod b < 0) == decide (b < 0)) = true := by assumption
      go_ret; exact ⟨ret_int (flo_c2 ha ha' h0 HS.out h1 (by rw [← tmod_sign h1]; exact h2.2)), _, rfl⟩
    · have h1 : ¬ a.tmod b = 0 := by assumption
      have h2 : (a.tmod b != 0) = false ∨ (!decide (a.tmod b < 0) == decide (b < 0)) = false := by assumption
      go_ret; exact ⟨ret_int (flo_c3 ha ha' h0 HS.out h1 (by rw [← tmod_sign h1]; exact h2)), _, rfl⟩

theorem t49z (lo y : Nat) (w : World) (hlo : lo < 18446744073709551616) (hy : y < 18446744073709551616) (h0 : 0 < y) :
    Calls Try.prog 43 #[.int .u64 0, .int .u64 lo, .int .u64 y] w fun e w' => e = .returned (.tuple #[.int .u64 ((lo / y : Nat) : Int), .int .u64 ((lo % y : Nat) : Int)]) ∧ ∃ n, w' = w.drewN n := by
  go_enter Try.func43, Try.ntmps43
  go_wp2
  go_quiet (fail)
  go_wp2
  go_ret2
  exact ⟨ret_two (by show IntKind.u64.wrap ((lo : Int) / (y : Int)) = _; rw [← Int.natCast_ediv, wrapN _ (Nat.lt_of_le_of_lt (Nat.div_le_self ..) hlo)]) (show (lo : Int) % (y : Int) = _ from (Int.natCast_emod lo y).symm), _, rfl⟩
theorem sgd_top {N d : Nat} (neg : Bool) (h0 : 0 < d) (h : d * 9223372036854775808 ≤ N) : dv N d neg = if neg then -9223372036854775808 else 9223372036854775807 := by
  have h1 : 9223372036854775808 ≤ N / d := (Nat.le_div_iff_mul_le h0).2 (by rw [Nat.mul_comm]; exact h)
  have e := rnd_parts neg (Nat.div_add_mod N d).symm (Nat.mod_lt N h0)
  unfold dv
  rw [if_neg (by omega), e, sgd_large (by (repeat' split) <;> omega)]
/-- the last lines of 'nearest': the quotient is less than 2^63. -/
theorem near_end {N d : Nat} (neg : Bool) (h0 : 0 < d) (h : N / d < 9223372036854775808) :
    dv N d neg = if neg then -((if d < 2 * (N % d) then N / d + 1 else N / d : Nat) : Int) else
      ((if N / d + 1 = 9223372036854775808 then N / d else if d ≤ 2 * (N % d) then N / d + 1 else N / d : Nat) : Int) := by
  have e := rnd_parts neg (Nat.div_add_mod N d).symm (Nat.mod_lt N h0)
  unfold dv
  rw [if_neg (by omega), e]
  cases neg
  · simp only [Bool.false_eq_true, if_false]
    by_cases hh : d ≤ 2 * (N % d)
    · simp only [hh, if_true]
      unfold sgd
      simp only [Bool.false_eq_true, if_false]
      split <;> split <;> omega
    · simp only [hh, if_false]
      rw [sgd_small (by omega)]; simp
  · simp only [if_true]
    by_cases hh : d < 2 * (N % d)
    · simp only [hh, if_true]
      unfold sgd
      simp only [if_true]
      split <;> omega
    · simp only [hh, if_false]
      rw [sgd_small (by omega)]; simp
set_option maxRecDepth 100000 in
theorem t38_of (hi lo n N : Nat) (eN : N = hi * 18446744073709551616 + lo) (neg : Bool) (w : World) (hhi : hi < 18446744073709551616) (hlo : lo < 18446744073709551616) (hn : n < 18446744073709551616)
    (hcall : 0 < n → hi < n → ∀ w, Calls Try.prog 43 #[.int .u64 hi, .int .u64 lo, .int .u64 n] w fun e w' => e = .returned (.tuple #[.int .u64 ((N / n : Nat) : Int), .int .u64 ((N % n : Nat) : Int)]) ∧ ∃ k, w' = w.drewN k) :
    Calls Try.prog 41 #[.int .u64 hi, .int .u64 lo, .int .u64 n, .bool neg] w fun e w' => e = .returned (.int .i64 (dv N n neg)) ∧ ∃ k, w' = w.drewN k := by
  by_cases h0 : n = 0
  · subst h0
    clear hcall
    go_enter Try.func41, Try.ntmps41
    go_wp2
    go_ret
    exact ⟨ret_int (by unfold dv; rfl), 0, rfl⟩
  have h0' : 0 < n := by omega
  have hb0 : ((n : Int) == 0) = false := by simp; omega
  by_cases hg : n ≤ hi
  · have hv := sgd_top (N := N) neg h0' (by
      have : n * 9223372036854775808 ≤ hi * 9223372036854775808 := Nat.mul_le_mul_right _ hg
      omega)
    have hg' : (n : Int) ≤ (hi : Int) := by omega
    have HV := Lib.hid hv
    clear hv hcall hhi hlo hn hg h0 eN
    cases neg
    all_goals
     go_enter Try.func41, Try.ntmps41
     go_wp2_with (go_at_call 42; refine (t48 _ _).mono ?_; rintro e w' ⟨rfl, rfl⟩)
     go_ret; exact ⟨ret_int (by rw [HV.out]; rfl), 0, rfl⟩
  have hg' : (hi : Int) < (n : Int) := by omega
  have c := hcall h0' (by omega)
  have hN : N < n * 18446744073709551616 := by
    have : (hi + 1) * 18446744073709551616 ≤ n * 18446744073709551616 := Nat.mul_le_mul_right _ (by omega)
    omega
  clear hcall
  have hr : N % n < n := Nat.mod_lt _ h0'
  have hq : N / n < 18446744073709551616 := (Nat.div_lt_iff_lt_mul h0').2 (by rw [Nat.mul_comm]; exact hN)
  have ht := @sgd_top N n neg h0'
  have he := @near_end N n neg h0'
  have hd : 9223372036854775808 ≤ N / n → n * 9223372036854775808 ≤ N := fun hm => by rw [Nat.mul_comm]; exact (Nat.le_div_iff_mul_le h0').1 hm
  generalize N / n = q at *
  generalize N % n = r at *
  have HC := Lib.hid c
  have q1 : (q : Int) ≤ 18446744073709551615 := by omega
  have n1 : (n : Int) ≤ 18446744073709551615 := by omega
  have r1 : (r : Int) < n := by omega
  clear hlo hhi hN hn hg hr c h0 hq eN
  by_cases hq : 9223372036854775807 < (q : Int)
  · have hv := ht (hd (by omega))
    have HV := Lib.hid hv
    clear ht he hd hv
    cases neg
    all_goals
     go_enter Try.func41, Try.ntmps41
     go_wp2_with (first | (go_at_call 43; refine (HC.out _).mono ?_; rintro e w' ⟨rfl, nq, rfl⟩) | (go_at_call 42; refine (t48 _ _).mono ?_; rintro e w' ⟨rfl, rfl⟩))
     go_ret; exact ⟨ret_int (by rw [HV.out]; rfl), _, rfl⟩
  · have hq2 : (q : Int) ≤ 9223372036854775807 := by omega
    have hv := he (by omega)
    have HV := Lib.hid hv
    clear hq q1 ht he hd hv
    have r2 : (0 : Int) ≤ (n : Int) - r := by omega
    have r3 : (n : Int) - r ≤ 18446744073709551615 := by omega
    by_cases g1 : (n : Int) - r < r
    · cases neg
      · go_enter Try.func41, Try.ntmps41
        go_wp2_with (go_at_call 43; refine (HC.out _).mono ?_; rintro e w' ⟨rfl, nq, rfl⟩)
        go_ret
        refine ⟨ret_int ?_, _, rfl⟩
        rw [HV.out]
        simp only [Bool.false_eq_true, if_false]
        (repeat' split) <;> omega
      · go_enter Try.func41, Try.ntmps41
        go_wp2_with (go_at_call 43; refine (HC.out _).mono ?_; rintro e w' ⟨rfl, nq, rfl⟩)
        go_ret
        refine ⟨ret_int ?_, _, rfl⟩
        rw [HV.out]
        simp only [if_true]
        rw [IntKind.wrap_u64]
        unfold wrap64
        (repeat' split) <;> omega
    · by_cases g2 : (r : Int) = (n : Int) - r
      · have g2' : ((r : Int) == (n : Int) - r) = true := by simpa using g2
        have G2 := Lib.hid g2
        clear g2
        cases neg
        · go_enter Try.func41, Try.ntmps41
          go_wp2_with (go_at_call 43; refine (HC.out _).mono ?_; rintro e w' ⟨rfl, nq, rfl⟩)
          go_ret
          refine ⟨ret_int ?_, _, rfl⟩
          rw [HV.out]
          simp only [Bool.false_eq_true, if_false]
          have g2 := G2.out
          (repeat' split) <;> omega
        · go_enter Try.func41, Try.ntmps41
          go_wp2_with (go_at_call 43; refine (HC.out _).mono ?_; rintro e w' ⟨rfl, nq, rfl⟩)
          go_ret
          refine ⟨ret_int ?_, _, rfl⟩
          rw [HV.out]
          simp only [if_true]
          rw [IntKind.wrap_u64]
          unfold wrap64
          have g2 := G2.out
          (repeat' split) <;> omega
      · have g2' : ((r : Int) == (n : Int) - r) = false := by simpa using g2
        have G2 := Lib.hid g2
        clear g2
        cases neg
        · go_enter Try.func41, Try.ntmps41
          go_wp2_with (go_at_call 43; refine (HC.out _).mono ?_; rintro e w' ⟨rfl, nq, rfl⟩)
          go_ret
          refine ⟨ret_int ?_, _, rfl⟩
          rw [HV.out]
          simp only [Bool.false_eq_true, if_false]
          have g2 := G2.out
          (repeat' split) <;> omega
        · go_enter Try.func41, Try.ntmps41
          go_wp2_with (go_at_call 43; refine (HC.out _).mono ?_; rintro e w' ⟨rfl, nq, rfl⟩)
          go_ret
          refine ⟨ret_int ?_, _, rfl⟩
          rw [HV.out]
          simp only [if_true]
          rw [IntKind.wrap_u64]
          unfold wrap64
          have g2 := G2.out
          (repeat' split) <;> omega

theorem t38z (lo n : Nat) (neg : Bool) (w : World) (hlo : lo < 18446744073709551616) (hn : n < 18446744073709551616) :
    Calls Try.prog 41 #[.int .u64 0, .int .u64 lo, .int .u64 n, .bool neg] w fun e w' => e = .returned (.int .i64 (dv lo n neg)) ∧ ∃ k, w' = w.drewN k :=
  t38_of 0 lo n lo (by omega) neg w (by omega) hlo hn (fun h0 _ w => t49z lo n w hlo hn h0)
theorem sgd_bd (m : Nat) (neg : Bool) : -9223372036854775808 ≤ sgd m neg ∧ sgd m neg ≤ 9223372036854775807 := by
  unfold sgd; cases neg <;> simp only [Bool.false_eq_true, if_true, if_false] <;> split <;> omega
theorem dv_bd (N d : Nat) (neg : Bool) : -9223372036854775808 ≤ dv N d neg ∧ dv N d neg ≤ 9223372036854775807 := by
  unfold dv; split
  · omega
  · exact sgd_bd _ _
theorem dvi_bd (a b : Int) : -9223372036854775808 ≤ dvi a b ∧ dvi a b ≤ 9223372036854775807 := dv_bd _ _ _
theorem ngb_walk (a b : Int) : dv a.natAbs b.natAbs (!decide (a < 0) == decide (b < 0)) = dvi a b := by
  unfold dvi ngb
  cases decide (a < 0) <;> cases decide (b < 0) <;> rfl
theorem t14 (a b : Int) (w : World) (ha : -9223372036854775808 ≤ a) (ha' : a ≤ 9223372036854775807) (hb : -9223372036854775808 ≤ b) (hb' : b ≤ 9223372036854775807) :
    Calls Try.prog 36 #[.int .i64 a, .int .i64 b] w fun e w' => e = .returned (.int .i64 (dvi a b)) ∧ ∃ k, w' = w.drewN k := by
  have c := fun w neg => t38z a.natAbs b.natAbs neg w (by omega) (by omega)
  have HC := Lib.hid c
  clear c
  go_enter Try.func36, Try.ntmps36
  go_wp2_with (first | (go_at_call 40; refine (t39 _ _ (by assumption) (by assumption)).mono ?_; rintro e w' ⟨rfl, rfl⟩) | (go_at_call 41; refine (HC.out _ _).mono ?_; rintro e w' ⟨rfl, nq, rfl⟩))
  go_ret
  exact ⟨ret_int (ngb_walk a b), _, rfl⟩
/-- R1.Div's last lines, from Floor's quotient. -/
theorem dvi_up {a b : Int} (ha : -9223372036854775808 ≤ a) (ha' : a ≤ 9223372036854775807) (hb0 : b ≠ 0) (hs : ¬ (a = -9223372036854775808 ∧ b = -1))
    (h : b.natAbs ≤ 2 * (a - b * flo a b).natAbs) : dvi a b = flo a b + 1 := by
  rw [dvi_flo a b ha ha' hb0 hs, if_pos h]
theorem dvi_stay {a b : Int} (ha : -9223372036854775808 ≤ a) (ha' : a ≤ 9223372036854775807) (hb0 : b ≠ 0) (hs : ¬ (a = -9223372036854775808 ∧ b = -1))
    (h : ¬ b.natAbs ≤ 2 * (a - b * flo a b).natAbs) : dvi a b = flo a b := by
  rw [dvi_flo a b ha ha' hb0 hs, if_neg h]
theorem flo_bd (a b : Int) (ha : -9223372036854775808 ≤ a) (ha' : a ≤ 9223372036854775807) : -9223372036854775808 ≤ flo a b ∧ flo a b ≤ 9223372036854775807 := by
  by_cases h0 : b = 0
  · subst h0; unfold flo; simp
  by_cases hs : a = -9223372036854775808 ∧ b = -1
  · obtain ⟨rfl, rfl⟩ := hs; unfold flo; simp
  have h := tdiv_bd a b ha ha' h0 hs
  rw [flo_tdiv a b h0 hs]
  split
  · rename_i hc; have := h.2.2 hc.1; omega
  · omega
theorem rest_wrap {a b : Int} (ha : -9223372036854775808 ≤ a) (ha' : a ≤ 9223372036854775807) (hb : -9223372036854775808 ≤ b) (hb' : b ≤ 9223372036854775807) (hb0 : b ≠ 0) (hs : ¬ (a = -9223372036854775808 ∧ b = -1)) :
    wrap64 (a - wrap64 (b * flo a b)) = a - b * flo a b := by
  have h := flo_rest a b hb0 hs
  generalize b * flo a b = p at *
  unfold wrap64
  omega
theorem t15 (a b : Int) (w : World) (ha : -9223372036854775808 ≤ a) (ha' : a ≤ 9223372036854775807) (hb : -9223372036854775808 ≤ b) (hb' : b ≤ 9223372036854775807) :
    Calls Try.prog 28 #[.int .i64 a, .int .i64 b] w fun e w' => e = .returned (.int .i64 (dvi a b)) ∧ ∃ k, w' = w.drewN k := by
  by_cases h0 : b = 0
  · subst h0
    go_enter Try.func28, Try.ntmps28
    go_wp2
    go_ret
    exact ⟨ret_int (by unfold dvi dv; simp), 0, rfl⟩
  have hb0 : (b == 0) = false := by simpa using h0
  by_cases hs : a = -9223372036854775808 ∧ b = -1
  · obtain ⟨rfl, rfl⟩ := hs
    go_enter Try.func28, Try.ntmps28
    go_wp2_with (go_at_call 37; refine (t13 _ _ _ ha ha' hb hb').mono ?_; rintro e w' ⟨rfl, nq, rfl⟩)
    go_ret
    exact ⟨ret_int (by decide +kernel), _, rfl⟩
  have hq := flo_bd a b ha ha'
  have hrw := rest_wrap ha ha' hb hb' h0 hs
  have hr := flo_rest a b h0 hs
  have hm : (a == -9223372036854775808) = true ∧ (b == -1) = false ∨ (a == -9223372036854775808) = false := by
    simp at hs ⊢; omega
  have hlt : (a - b * flo a b).natAbs < b.natAbs := by omega
  have hup := @dvi_up a b ha ha' h0 hs
  have hst := @dvi_stay a b ha ha' h0 hs
  have hu : b.natAbs ≤ 2 * (a - b * flo a b).natAbs → flo a b + 1 ≤ 9223372036854775807 := by
    intro h
    have := dvi_up ha ha' h0 hs h
    have := (dvi_bd a b).2
    omega
  have hF := fun w => t13 a b w ha ha' hb hb'
  have HF := Lib.hid hF
  have HR := Lib.hid hrw
  clear hs hr hF hrw
  generalize flo a b = q at *
  generalize a - b * q = r at *
  by_cases hc : b.natAbs ≤ 2 * r.natAbs
  · have hv := hup hc
    have hu := hu hc
    have hc' : (b.natAbs : Int) - r.natAbs ≤ r.natAbs := by omega
    have hc2 : (0 : Int) ≤ (b.natAbs : Int) - r.natAbs := by omega
    have hc3 : (b.natAbs : Int) - r.natAbs ≤ 18446744073709551615 := by omega
    have hra : -9223372036854775808 ≤ r := by omega
    have hrb : r ≤ 9223372036854775807 := by omega
    have HV := Lib.hid hv
    have HL := Lib.hid hlt
    clear hup hst hv hc hlt h0
    rcases hm with ⟨hm, hb1⟩ | hm
    all_goals
      go_enter Try.func28, Try.ntmps28
      go_wp2_with (first | (go_at_call 37; refine (HF.out _).mono ?_; rintro e w' ⟨rfl, nq, rfl⟩) | (go_at_call 38; (try rw [HR.out]); refine (t37 _ _ (by assumption) (by assumption)).mono ?_; rintro e w' ⟨rfl, rfl⟩))
      go_ret
      exact ⟨ret_int HV.out.symm, _, rfl⟩
  · have hv := hst hc
    have hc' : ¬ (b.natAbs : Int) - r.natAbs ≤ r.natAbs := by omega
    have hc2 : (0 : Int) ≤ (b.natAbs : Int) - r.natAbs := by omega
    have hc3 : (b.natAbs : Int) - r.natAbs ≤ 18446744073709551615 := by omega
    have hra : -9223372036854775808 ≤ r := by omega
    have hrb : r ≤ 9223372036854775807 := by omega
    have HV := Lib.hid hv
    have HL := Lib.hid hlt
    clear hup hst hv hc hlt h0 hu
    rcases hm with ⟨hm, hb1⟩ | hm
    all_goals
      go_enter Try.func28, Try.ntmps28
      go_wp2_with (first | (go_at_call 37; refine (HF.out _).mono ?_; rintro e w' ⟨rfl, nq, rfl⟩) | (go_at_call 38; (try rw [HR.out]); refine (t37 _ _ (by assumption) (by assumption)).mono ?_; rintro e w' ⟨rfl, rfl⟩))
      go_ret
      exact ⟨ret_int HV.out.symm, _, rfl⟩

/-- x limited to a unit value. -/
def un (x : Int) : Int := min 65535 (max x 0)
theorem un_lo (x : Int) : 0 ≤ un x := by unfold un; omega
theorem un_hi (x : Int) : un x ≤ 65535 := by unfold un; omega
def mulu (a b : Int) : Int := dvi (un a * un b) 65535
theorem un_mul (a b : Int) : 0 ≤ un a * un b ∧ un a * un b ≤ 4294836225 := by
  have h1 := un_lo a; have h2 := un_lo b; have h3 := un_hi a; have h4 := un_hi b
  constructor
  · exact Int.mul_nonneg h1 h2
  · exact Int.mul_le_mul h3 h4 h2 (by omega)
def quou (a b : Int) : Int := min 65535 (dvi (un a * 65535) (un b))
def cl40 (a : Int) : Int := min 1099511627776 (max a (-1099511627776))
theorem cl40_lo (a : Int) : -1099511627776 ≤ cl40 a := by unfold cl40; omega
theorem cl40_hi (a : Int) : cl40 a ≤ 1099511627776 := by unfold cl40; omega
def lrp (a b t : Int) : Int := dvi (cl40 a * (65535 - un t) + cl40 b * un t) 65535
theorem mul_bd (x y : Int) (h1 : -1099511627776 ≤ x) (h2 : x ≤ 1099511627776) (h3 : 0 ≤ y) (h4 : y ≤ 65535) : -72056494526300160 ≤ x * y ∧ x * y ≤ 72056494526300160 := by
  have a1 : x * y ≤ 1099511627776 * y := Int.mul_le_mul_of_nonneg_right h2 h3
  have a2 : (-1099511627776) * y ≤ x * y := Int.mul_le_mul_of_nonneg_right h1 h3
  omega
theorem c16 (a : Int) (w : World) : Calls Try.prog 29 #[.int .i64 a, .int .i64 (-1099511627776), .int .i64 1099511627776] w fun e w' => e = .returned (.int .i64 (cl40 a)) ∧ w = w' := t16 _ _ _ _
end Go.Proofs.Ytmafmpgpaioniaa
