/-
  The runs of root, Sqrt and Hypot of package num and of their likes in the specification: the integer root, for any integers of their types; the world is as it was.
-/
import Derived.Test.YtcbegpnmidhnjaaDoorProg
import Derived.WalkKit
import Derived.WalkLawsBesides
import Derived.Lib.Walk
import Derived.Lib.BitFns
import Derived.Lib.ItoaNum
import Derived.Lib.Mul64
import Derived.Laws.Bits64b
import Derived.Laws.BitsAllLaws
import Derived.Laws.Externs
import Derived.Deep.QuietTactic
import Derived.BigQuiet
import Derived.RowKit3
import Derived.Deep.LoopGhost
import Derived.Great.Walk
import Derived.Great.BuildSlice
import Derived.Laws.Rows
import Derived.Laws.Tables
import Derived.Laws.CopyOwn
import Derived.Lib.Hide
import Derived.Test.YtcbegpnmidhnjaaDoorInts
namespace Go.Proofs.YtcbegpnmidhnjaaDoor
open Go.RowKit
set_option maxHeartbeats 400000
set_option linter.unusedVariables false
def pre : Nat → Int
  | 0 => -1
  | j + 1 => j
theorem pre_of (k : Nat) : pre k = (k : Int) - 1 := by cases k <;> simp [pre]
theorem c50 (x : Nat) (hx : (x : Int) ≤ 18446744073709551615) (w : World) : Calls Tryd.prog 50 #[.int .u64 x] w fun e w' => e = .returned (.int .i64 (Lib.bitLen x)) ∧ w = w' := t50 x w (by omega) (by omega)
theorem bitLen_lt (x : Nat) (h : x < 18446744073709551616) : x < 2 ^ Lib.bitLen x := by
  by_cases h0 : x = 0
  · subst h0; exact Nat.two_pow_pos _
  · exact (Lib.bitLenAux_bounds 64 x h h0).2.2
theorem or_pow {N k q T : Nat} (hinv : rtInv N (k + 1) q) (hk : (k : Int) ≤ 63) (hN : N < 340282366920938463463374607431768211456) (hT : T = q + 2 ^ k) :
    bits .or .u64 (q : Int) (IntKind.u64.wrap (2 ^ k)) = (T : Int) := by
  have h1 := rtInv_fits (by omega) hinv hN
  have e : (2 : Int) ^ k = ((2 ^ k : Nat) : Int) := by simp
  have := Nat.two_pow_pos k
  rw [e, wrapN _ (by omega), u64_or_nat q (2 ^ k) (by omega) (by omega), rtInv_or hinv, hT]
theorem start_lo {hi lo N L : Nat} (eN : N = hi * 18446744073709551616 + lo) (h : lo < 2 ^ L) (h0 : hi = 0) : rtInv N ((L + 1) / 2) 0 := by
  apply rtInv_start
  have : 2 ^ L ≤ 2 ^ ((L + 1) / 2 + (L + 1) / 2) := Nat.pow_le_pow_right (by omega) (by omega)
  omega
theorem start_hi {hi lo N L : Nat} (eN : N = hi * 18446744073709551616 + lo) (hl : lo < 18446744073709551616) (h : hi < 2 ^ L) : rtInv N ((64 + L + 1) / 2) 0 := by
  apply rtInv_start
  have : 2 ^ (64 + L) ≤ 2 ^ ((64 + L + 1) / 2 + (64 + L + 1) / 2) := Nat.pow_le_pow_right (by omega) (by omega)
  have e : 2 ^ (64 + L) = 18446744073709551616 * 2 ^ L := by rw [Nat.pow_add]
  have : (hi + 1) * 18446744073709551616 ≤ 2 ^ L * 18446744073709551616 := Nat.mul_le_mul_right _ h
  omega
set_option maxRecDepth 100000 in
theorem t44 (hi lo N : Nat) (eN : N = hi * 18446744073709551616 + lo) (w : World) (hhi : hi < 18446744073709551616) (hlo : lo < 18446744073709551616) :
    Calls Tryd.prog 44 #[.int .u64 hi, .int .u64 lo] w fun e w' => e = .returned (.int .u64 (rt N : Nat)) ∧ w = w' := by
  have hN : N < 340282366920938463463374607431768211456 := by omega
  have b1 := Lib.bitLen_le hi 64 (by omega) (by simpa using hhi)
  have b2 := Lib.bitLen_le lo 64 (by omega) (by simpa using hlo)
  have s1 := bitLen_lt hi hhi
  have s2 := bitLen_lt lo hlo
  have hh1 : (hi : Int) ≤ 18446744073709551615 := by omega
  have hl1 : (lo : Int) ≤ 18446744073709551615 := by omega
  have HN := Lib.hid hN
  have EN := Lib.hid eN
  have HL := Lib.hid hlo
  have HH := Lib.hid hhi
  have S1 := Lib.hid s1
  have S2 := Lib.hid s2
  clear hN eN hlo hhi s1 s2
  have h0 : ((hi : Int) != 0) = false ∨ ((hi : Int) != 0) = true := by cases ((hi : Int) != 0) <;> simp
  rcases h0 with h0 | h0
  · have H0 : Hid (hi = 0) := Lib.hid (by simpa using h0)
    go_enter Tryd.func44, Tryd.ntmps44
    go_wp2_with (go_at_call 50; refine (c50 _ (by omega) _).mono ?_; rintro e w' ⟨rfl, rfl⟩)
    go_loop [6, 7] (fun r i => ∃ k q : Nat, rtInv N k q ∧ k ≤ 64 ∧ r = .int .u64 q ∧ i = .int .i64 (pre k)) (fun _ i => (intOf i + 1).toNat)
    case atStart =>
      exact ⟨(Lib.bitLen lo + 1) / 2, 0, start_lo EN.out S2.out (by have := H0.out; omega), by omega, rfl, by rw [pre_of]; congr 1⟩
    case round =>
      obtain ⟨k, q, hinv, hk, rfl, rfl⟩ := hrel
      cases k with
      | zero =>
        have e0 : pre 0 = -1 := rfl
        have H := Lib.hid hinv
        clear hinv
        go_wp2
        go_ret
        exact ⟨ret_int (by rw [rtInv_end HN.out H.out]), rfl⟩
      | succ j =>
        have e1 : pre (j + 1) = (j : Int) := rfl
        have j1 : (j : Int) ≤ 63 := by omega
        obtain ⟨T, hT⟩ : ∃ T, T = q + 2 ^ j := ⟨_, rfl⟩
        have et := or_pow hinv j1 HN.out hT
        have tf : T < 18446744073709551616 := by rw [hT]; exact rtInv_fits (by omega) hinv HN.out
        have hle := halves_le hi lo N (T * T) EN.out HL.out
        have hy : T * T ≤ N → rtInv N j T := fun h => by rw [hT] at h ⊢; exact rtInv_take hinv h
        have hn : ¬ T * T ≤ N → rtInv N j q := fun h => by rw [hT] at h; exact rtInv_leave hinv h
        have c := fun w => t41 T T tf tf w
        generalize T * T / 18446744073709551616 = th at *
        generalize T * T % 18446744073709551616 = tl at *
        have C := Lib.hid c
        clear hT hinv c tf
        have hcases : (th : Int) < hi ∧ rtInv N j T ∨ ((th : Int) == hi) = true ∧ (hi : Int) ≤ th ∧ (tl : Int) ≤ lo ∧ rtInv N j T ∨ ((th : Int) == hi) = true ∧ (hi : Int) ≤ th ∧ (lo : Int) < tl ∧ rtInv N j q ∨ ((th : Int) == hi) = false ∧ (hi : Int) ≤ th ∧ rtInv N j q := by
          by_cases h1 : th < hi
          · exact Or.inl ⟨by omega, hy (hle.1 (Or.inl h1))⟩
          · by_cases h2 : th = hi
            · by_cases h3 : tl ≤ lo
              · exact Or.inr (Or.inl ⟨by simp [h2], by omega, by omega, hy (hle.1 (Or.inr ⟨h2, h3⟩))⟩)
              · exact Or.inr (Or.inr (Or.inl ⟨by simp [h2], by omega, by omega, hn (fun h => by have := hle.2 h; omega)⟩))
            · exact Or.inr (Or.inr (Or.inr ⟨by simp; omega, by omega, hn (fun h => by have := hle.2 h; omega)⟩))
        clear hle hy hn
        rcases hcases with ⟨g1, hi2⟩ | ⟨g1, g2, g3, hi2⟩ | ⟨g1, g2, g3, hi2⟩ | ⟨g1, g2, hi2⟩
        all_goals
          have HI := Lib.hid hi2
          clear hi2
          go_wp2_with (go_at_call 41; refine (C.out _).mono ?_; rintro e w' ⟨rfl, rfl⟩)
          go_round
          case rel => exact ⟨j, _, HI.out, by omega, rfl, by rw [pre_of]⟩
          case measure => simp [intOf]; omega
  · go_enter Tryd.func44, Tryd.ntmps44
    go_wp2_with (go_at_call 50; refine (c50 _ (by omega) _).mono ?_; rintro e w' ⟨rfl, rfl⟩)
    go_loop [6, 7] (fun r i => ∃ k q : Nat, rtInv N k q ∧ k ≤ 64 ∧ r = .int .u64 q ∧ i = .int .i64 (pre k)) (fun _ i => (intOf i + 1).toNat)
    case atStart =>
      exact ⟨(64 + Lib.bitLen hi + 1) / 2, 0, start_hi EN.out HL.out S1.out, by omega, rfl, by rw [pre_of]; congr 1⟩
    case round =>
      obtain ⟨k, q, hinv, hk, rfl, rfl⟩ := hrel
      cases k with
      | zero =>
        have e0 : pre 0 = -1 := rfl
        have H := Lib.hid hinv
        clear hinv
        go_wp2
        go_ret
        exact ⟨ret_int (by rw [rtInv_end HN.out H.out]), rfl⟩
      | succ j =>
        have e1 : pre (j + 1) = (j : Int) := rfl
        have j1 : (j : Int) ≤ 63 := by omega
        obtain ⟨T, hT⟩ : ∃ T, T = q + 2 ^ j := ⟨_, rfl⟩
        have et := or_pow hinv j1 HN.out hT
        have tf : T < 18446744073709551616 := by rw [hT]; exact rtInv_fits (by omega) hinv HN.out
        have hle := halves_le hi lo N (T * T) EN.out HL.out
        have hy : T * T ≤ N → rtInv N j T := fun h => by rw [hT] at h ⊢; exact rtInv_take hinv h
        have hn : ¬ T * T ≤ N → rtInv N j q := fun h => by rw [hT] at h; exact rtInv_leave hinv h
        have c := fun w => t41 T T tf tf w
        generalize T * T / 18446744073709551616 = th at *
        generalize T * T % 18446744073709551616 = tl at *
        have C := Lib.hid c
        clear hT hinv c tf
        have hcases : (th : Int) < hi ∧ rtInv N j T ∨ ((th : Int) == hi) = true ∧ (hi : Int) ≤ th ∧ (tl : Int) ≤ lo ∧ rtInv N j T ∨ ((th : Int) == hi) = true ∧ (hi : Int) ≤ th ∧ (lo : Int) < tl ∧ rtInv N j q ∨ ((th : Int) == hi) = false ∧ (hi : Int) ≤ th ∧ rtInv N j q := by
          by_cases h1 : th < hi
          · exact Or.inl ⟨by omega, hy (hle.1 (Or.inl h1))⟩
          · by_cases h2 : th = hi
            · by_cases h3 : tl ≤ lo
              · exact Or.inr (Or.inl ⟨by simp [h2], by omega, by omega, hy (hle.1 (Or.inr ⟨h2, h3⟩))⟩)
              · exact Or.inr (Or.inr (Or.inl ⟨by simp [h2], by omega, by omega, hn (fun h => by have := hle.2 h; omega)⟩))
            · exact Or.inr (Or.inr (Or.inr ⟨by simp; omega, by omega, hn (fun h => by have := hle.2 h; omega)⟩))
        clear hle hy hn
        rcases hcases with ⟨g1, hi2⟩ | ⟨g1, g2, g3, hi2⟩ | ⟨g1, g2, g3, hi2⟩ | ⟨g1, g2, hi2⟩
        all_goals
          have HI := Lib.hid hi2
          clear hi2
          go_wp2_with (go_at_call 41; refine (C.out _).mono ?_; rintro e w' ⟨rfl, rfl⟩)
          go_round
          case rel => exact ⟨j, _, HI.out, by omega, rfl, by rw [pre_of]⟩
          case measure => simp [intOf]; omega

def sqr (n : Int) : Int := if n < 0 then 0 else (rt n.toNat : Nat)
theorem rt_small {N : Nat} (h : N < 9223372036854775808) : rt N < 4294967296 := by
  have h1 := (rt_is N (by omega)).1
  by_cases hh : rt N < 4294967296
  · exact hh
  · have := Nat.mul_le_mul (show 4294967296 ≤ rt N by omega) (show 4294967296 ≤ rt N by omega)
    omega
theorem t29 (n : Int) (w : World) (h : -9223372036854775808 ≤ n) (h' : n ≤ 9223372036854775807) :
    Calls Tryd.prog 29 #[.int .i64 n] w fun e w' => e = .returned (.int .i64 (sqr n)) ∧ w = w' := by
  by_cases h0 : n < 0
  · go_enter Tryd.func29, Tryd.ntmps29
    go_wp2
    go_ret
    exact ⟨ret_int (by unfold sqr; rw [if_pos h0]), rfl⟩
  · obtain ⟨m, rfl⟩ : ∃ m : Nat, n = (m : Int) := ⟨n.toNat, by omega⟩
    have c := fun w => t44 0 m m (by omega) w (by omega) (by omega)
    have r1 := rt_small (N := m) (by omega)
    have e : sqr (m : Int) = (rt m : Nat) := by unfold sqr; rw [if_neg h0]; simp
    generalize rt m = r at *
    have C := Lib.hid c
    have E := Lib.hid e
    clear c e
    go_enter Tryd.func29, Tryd.ntmps29
    go_wp2_with (go_at_call 44; refine (C.out _).mono ?_; rintro e w' ⟨rfl, rfl⟩)
    go_ret
    exact ⟨ret_int E.out.symm, rfl⟩
/-- the sum of two squares. -/
def sq2 (x y : Int) : Nat := x.natAbs * x.natAbs + y.natAbs * y.natAbs
def hyp (x y : Int) : Int := min (((rt (sq2 x y) : Nat) : Int)) 9223372036854775807
theorem sq_le (x : Nat) (h : x ≤ 9223372036854775808) : x * x ≤ 85070591730234615865843651857942052864 := Nat.mul_le_mul h h
theorem r45z (x y : Nat) (w : World) :
    (callFunc 45 #[.int .u64 x, .int .u64 y, .int .u64 0]).run Tryd.prog w =
      .ok (.value (.tuple #[.int .u64 (((x + y) % 18446744073709551616 : Nat) : Int), .int .u64 (((x + y) / 18446744073709551616 : Nat) : Int)])) w := run45 x y 0 (by omega) w
set_option maxRecDepth 100000 in
theorem t31 (x y : Int) (w : World) (hx : -9223372036854775808 ≤ x) (hx' : x ≤ 9223372036854775807) (hy : -9223372036854775808 ≤ y) (hy' : y ≤ 9223372036854775807) :
    Calls Tryd.prog 31 #[.int .i64 x, .int .i64 y] w fun e w' => e = .returned (.int .i64 (hyp x y)) ∧ w = w' := by
  have a1 : x.natAbs ≤ 9223372036854775808 := by omega
  have a2 : y.natAbs ≤ 9223372036854775808 := by omega
  have b1 := sq_le _ a1
  have b2 := sq_le _ a2
  have eS : sq2 x y = x.natAbs * x.natAbs + y.natAbs * y.natAbs := rfl
  have m1 := fun w => t41 x.natAbs x.natAbs (by omega) (by omega) w
  have m2 := fun w => t41 y.natAbs y.natAbs (by omega) (by omega) w
  have eh : hyp x y = min (((rt (sq2 x y) : Nat) : Int)) 9223372036854775807 := rfl
  generalize sq2 x y = S at *
  generalize x.natAbs * x.natAbs = X at *
  generalize y.natAbs * y.natAbs = Y at *
  have hs : (X % 18446744073709551616 + Y % 18446744073709551616) / 18446744073709551616 ≤ 1 := by omega
  have r1 := fun w => r45z (X % 18446744073709551616) (Y % 18446744073709551616) w
  have r2 := fun w => run45 (X / 18446744073709551616) (Y / 18446744073709551616) ((X % 18446744073709551616 + Y % 18446744073709551616) / 18446744073709551616) hs w
  have c := fun w => t44 ((X / 18446744073709551616 + Y / 18446744073709551616 + (X % 18446744073709551616 + Y % 18446744073709551616) / 18446744073709551616) % 18446744073709551616) ((X % 18446744073709551616 + Y % 18446744073709551616) % 18446744073709551616) S (by omega) w (by omega) (by omega)
  have rl := rt_lt (N := S) (by omega)
  generalize (X / 18446744073709551616 + Y / 18446744073709551616 + (X % 18446744073709551616 + Y % 18446744073709551616) / 18446744073709551616) % 18446744073709551616 = z1 at *
  generalize (X / 18446744073709551616 + Y / 18446744073709551616 + (X % 18446744073709551616 + Y % 18446744073709551616) / 18446744073709551616) / 18446744073709551616 = z2 at *
  generalize (X % 18446744073709551616 + Y % 18446744073709551616) % 18446744073709551616 = z3 at *
  generalize (X % 18446744073709551616 + Y % 18446744073709551616) / 18446744073709551616 = z4 at *
  generalize X / 18446744073709551616 = xh at *
  generalize Y / 18446744073709551616 = yh at *
  generalize X % 18446744073709551616 = xl at *
  generalize Y % 18446744073709551616 = yl at *
  have M1 := Lib.hid m1
  have M2 := Lib.hid m2
  have C := Lib.hid c
  have EH := Lib.hid eh
  generalize rt S = r at *
  have rl' : (r : Int) ≤ 18446744073709551615 := by omega
  clear m1 m2 c eh eS b1 b2 a1 a2 hs rl
  go_enter Tryd.func31, Tryd.ntmps31
  go_wp2_with (first | (go_at_call 39; refine (t39 _ _ (by assumption) (by assumption)).mono ?_; rintro e w' ⟨rfl, rfl⟩) | (go_at_call 41; (with_reducible refine (M1.out _).mono ?_); rintro e w' ⟨rfl, rfl⟩) | (go_at_call 41; (with_reducible refine (M2.out _).mono ?_); rintro e w' ⟨rfl, rfl⟩) | (go_at_call 44; refine (C.out _).mono ?_; rintro e w' ⟨rfl, rfl⟩))
  go_ret
  exact ⟨ret_int EH.out.symm, rfl⟩

def bt : Nat → Int
  | 0 => 0
  | j + 1 => ((2 ^ j : Nat) : Int)
theorem bt_half (j : Nat) : bt (j + 1) / 2 = bt j := by
  cases j with
  | zero => rfl
  | succ i => show ((2 ^ (i + 1) : Nat) : Int) / 2 = ((2 ^ i : Nat) : Int); rw [Nat.pow_succ]; omega
theorem bt_pos (j : Nat) : (1 : Int) ≤ bt (j + 1) := by
  show (1 : Int) ≤ ((2 ^ j : Nat) : Int); have := Nat.two_pow_pos j; omega
set_option maxRecDepth 100000 in
theorem t30 (n : Int) (w : World) (h : -9223372036854775808 ≤ n) (h' : n ≤ 9223372036854775807) :
    Calls Tryd.prog 30 #[.int .i64 n] w fun e w' => e = .returned (.int .i64 (sqr n)) ∧ w = w' := by
  by_cases h0 : n < 0
  · go_enter Tryd.func30, Tryd.ntmps30
    go_wp2
    go_ret
    exact ⟨ret_int (by unfold sqr; rw [if_pos h0]), rfl⟩
  · obtain ⟨m, rfl⟩ : ∃ m : Nat, n = (m : Int) := ⟨n.toNat, by omega⟩
    have e : sqr (m : Int) = (rt m : Nat) := by unfold sqr; rw [if_neg h0]; simp
    have E := Lib.hid e
    have hb : ((m : Int) < 0) = False := by simp
    have b32 : bt 32 = 2147483648 := rfl
    have B32 := Lib.hid b32
    clear e h b32
    go_enter Tryd.func30, Tryd.ntmps30
    go_wp2
    go_loop [3, 4] (fun r b => ∃ k q : Nat, rtInv m k q ∧ k ≤ 32 ∧ r = .int .i64 q ∧ b = .int .i64 (bt k)) (fun _ b => (intOf b).toNat)
    case atStart => exact ⟨32, 0, rtInv_start m 32 (by simp; omega), by omega, rfl, by rw [B32.out]⟩
    case round =>
      obtain ⟨k, q, hinv, hk, rfl, rfl⟩ := hrel
      cases k with
      | zero =>
        have e0 : bt 0 = 0 := rfl
        have H := Lib.hid (rtInv_end (by omega) hinv)
        clear hinv
        go_wp2
        go_ret
        exact ⟨ret_int (by rw [E.out, ← H.out]), rfl⟩
      | succ j =>
        have q1 : (q : Int) ≤ 3037000499 := by
          have := hinv.1
          by_cases hh : q ≤ 3037000499
          · omega
          · have := Nat.mul_le_mul (show 3037000500 ≤ q by omega) (show 3037000500 ≤ q by omega); omega
        have q2 : bt (j + 1) ≤ 2147483648 := by
          show ((2 ^ j : Nat) : Int) ≤ _
          have : 2 ^ j ≤ 2 ^ 31 := Nat.pow_le_pow_right (by omega) (by omega)
          omega
        have q3 := bt_pos j
        have q4 := bt_half j
        have hy : (q + 2 ^ j) * (q + 2 ^ j) ≤ m → rtInv m j (q + 2 ^ j) := rtInv_take hinv
        have hn : ¬ (q + 2 ^ j) * (q + 2 ^ j) ≤ m → rtInv m j q := rtInv_leave hinv
        have eb : bt (j + 1) = ((2 ^ j : Nat) : Int) := rfl
        generalize hT : q + 2 ^ j = T at *
        have et : (q : Int) + bt (j + 1) = (T : Int) := by omega
        generalize bt (j + 1) = b at *
        have hcases : (T : Int) ≤ 3037000499 ∧ (T : Int) * T ≤ m ∧ (0 : Int) ≤ (T : Int) * T ∧ (T : Int) * T ≤ 9223372036854775807 ∧ rtInv m j T ∨ (T : Int) ≤ 3037000499 ∧ (m : Int) < (T : Int) * T ∧ (0 : Int) ≤ (T : Int) * T ∧ (T : Int) * T ≤ 9223372036854775807 ∧ rtInv m j q ∨ (3037000499 : Int) < T ∧ (0 : Int) ≤ 0 ∧ (0 : Int) ≤ 0 ∧ (0 : Int) ≤ 0 ∧ rtInv m j q := by
          have eT : (T : Int) * T = ((T * T : Nat) : Int) := by simp
          by_cases h1 : T ≤ 3037000499
          · have h3 : T * T ≤ 3037000499 * 3037000499 := Nat.mul_le_mul h1 h1
            by_cases h2 : T * T ≤ m
            · exact Or.inl ⟨by omega, by omega, by omega, by omega, hy h2⟩
            · exact Or.inr (Or.inl ⟨by omega, by omega, by omega, by omega, hn h2⟩)
          · have h3 := Nat.mul_le_mul (show 3037000500 ≤ T by omega) (show 3037000500 ≤ T by omega)
            exact Or.inr (Or.inr ⟨by omega, by omega, by omega, by omega, hn (by omega)⟩)
        clear hy hn hinv hT eb
        rcases hcases with ⟨g1, g2, g3, g4, hi2⟩ | ⟨g1, g2, g3, g4, hi2⟩ | ⟨g1, g2, g3, g4, hi2⟩
        all_goals
          have HI := Lib.hid hi2
          have Q4 := Lib.hid q4
          clear hi2 q4
          go_wp2
          go_round
          case rel => exact ⟨j, _, HI.out, by omega, rfl, by rw [Q4.out]⟩
          case measure => simp [intOf]; omega

theorem or_bt {N k q T : Nat} (hinv : rtInv N (k + 1) q) (hk : (k : Int) ≤ 63) (hN : N < 340282366920938463463374607431768211456) (hT : T = q + 2 ^ k) :
    bits .or .u64 (q : Int) (bt (k + 1)) = (T : Int) := by
  have h1 := rtInv_fits (by omega) hinv hN
  have := Nat.two_pow_pos k
  show bits .or .u64 (q : Int) ((2 ^ k : Nat) : Int) = _
  rw [u64_or_nat q (2 ^ k) (by omega) (by omega), rtInv_or hinv, hT]
theorem sgd_min (r : Nat) : sgd (0 * 18446744073709551616 + r) false = min (r : Int) 9223372036854775807 := by
  unfold sgd; simp; split <;> omega
theorem c42 (r : Nat) (hr : (r : Int) ≤ 18446744073709551615) (w : World) : Calls Tryd.prog 42 #[.int .u64 0, .int .u64 r, .bool false] w fun e w' => e = .returned (.int .i64 (min (r : Int) 9223372036854775807)) ∧ w = w' :=
  (t42 0 r false w (by omega) (by omega)).mono fun e w' h => ⟨h.1.trans (ret_int (sgd_min r)), h.2⟩
set_option maxRecDepth 100000 in
theorem sum_halves (S xh yh xl yl : Nat) (f1 : xl < 18446744073709551616) (f2 : yl < 18446744073709551616) (f3 : xh ≤ 4611686018427387904) (f4 : yh ≤ 4611686018427387904)
    (f5 : S = (xh + yh) * 18446744073709551616 + (xl + yl)) :
    ∃ zl zh zt : Nat,  IntKind.u64.wrap ((xl : Int) + yl) = (zl : Int) ∧ (xh : Int) + yh = (zt : Int) ∧ S = zh * 18446744073709551616 + zl ∧ (zl : Int) ≤ 18446744073709551615 ∧ (zh : Int) ≤ 18446744073709551615 ∧ (zt : Int) ≤ 9223372036854775808 ∧ ((zl : Int) < xl ∧ (zt : Int) + 1 = zh ∨ (xl : Int) ≤ zl ∧ zh = zt) := by
  by_cases hc : xl + yl < 18446744073709551616
  · exact ⟨xl + yl, xh + yh, xh + yh, by rw [IntKind.wrap_u64]; omega, by omega, by omega, by omega, by omega, by omega, Or.inr ⟨by omega, rfl⟩⟩
  · obtain ⟨z, hz⟩ : ∃ z, xl + yl = z + 18446744073709551616 := Nat.exists_eq_add_of_le' (by omega)
    refine ⟨z, xh + yh + 1, xh + yh, ?_, ?_, ?_, ?_, ?_, ?_, Or.inl ⟨?_, ?_⟩⟩
    · rw [IntKind.wrap_u64]; omega
    · omega
    · have f5' : (S : Int) = (xh + yh) * 18446744073709551616 + (xl + yl) := by omega
      have hz' : (xl : Int) + yl = z + 18446744073709551616 := by omega
      clear hz f5
      apply Int.ofNat_inj.1
      simp only [Int.natCast_add, Int.natCast_mul]
      omega
    all_goals omega

set_option maxRecDepth 100000 in
theorem t32 (x y : Int) (w : World) (hx : -9223372036854775808 ≤ x) (hx' : x ≤ 9223372036854775807) (hy : -9223372036854775808 ≤ y) (hy' : y ≤ 9223372036854775807) :
    Calls Tryd.prog 32 #[.int .i64 x, .int .i64 y] w fun e w' => e = .returned (.int .i64 (hyp x y)) ∧ w = w' := by
  have a1 : x.natAbs ≤ 9223372036854775808 := by omega
  have a2 : y.natAbs ≤ 9223372036854775808 := by omega
  have b1 := sq_le _ a1
  have b2 := sq_le _ a2
  have eS : sq2 x y = x.natAbs * x.natAbs + y.natAbs * y.natAbs := rfl
  have m1 := fun w => t36 x.natAbs x.natAbs (by omega) (by omega) w
  have m2 := fun w => t36 y.natAbs y.natAbs (by omega) (by omega) w
  have eh : hyp x y = min (((rt (sq2 x y) : Nat) : Int)) 9223372036854775807 := rfl
  generalize sq2 x y = S at *
  generalize x.natAbs * x.natAbs = X at *
  generalize y.natAbs * y.natAbs = Y at *
  have hS : S < 340282366920938463463374607431768211456 := by omega
  have f1 : X % 18446744073709551616 < 18446744073709551616 := by omega
  have f2 : Y % 18446744073709551616 < 18446744073709551616 := by omega
  have f3 : X / 18446744073709551616 ≤ 4611686018427387904 := by omega
  have f4 : Y / 18446744073709551616 ≤ 4611686018427387904 := by omega
  have f5 : S = (X / 18446744073709551616 + Y / 18446744073709551616) * 18446744073709551616 + (X % 18446744073709551616 + Y % 18446744073709551616) := by omega
  generalize X / 18446744073709551616 = xh at *
  generalize Y / 18446744073709551616 = yh at *
  generalize X % 18446744073709551616 = xl at *
  generalize Y % 18446744073709551616 = yl at *
  -- the sum's halves, as Go adds them
  have key := sum_halves S xh yh xl yl f1 f2 f3 f4 f5
  obtain ⟨zl, zh, zt, k1, k2, k3, k4, k5, k6, k7⟩ := key
  have M1 := Lib.hid m1
  have M2 := Lib.hid m2
  have EH := Lib.hid eh
  have HS := Lib.hid hS
  have ES := Lib.hid k3
  have b64 : bt 64 = 9223372036854775808 := rfl
  have B64 := Lib.hid b64
  have x1 : (xl : Int) ≤ 18446744073709551615 := by omega
  have x2 : (yl : Int) ≤ 18446744073709551615 := by omega
  clear m1 m2 eh eS b1 b2 a1 a2 b64 k3 hS f1 f2 f3 f4 f5
  have k9 : (zl : Int) < xl ∧ (zt : Int) + 1 = zh ∧ (decide (zl < xl)) = true ∨ (xl : Int) ≤ zl ∧ zh = zt ∧ (decide (zl < xl)) = false := by
    rcases k7 with ⟨k7, k8⟩ | ⟨k7, k8⟩
    · exact Or.inl ⟨k7, k8, by simp; omega⟩
    · exact Or.inr ⟨k7, k8, by simp; omega⟩
  clear k7
  rcases k9 with ⟨k7, k8, k9⟩ | ⟨k7, rfl, k9⟩
  all_goals
    go_enter Tryd.func32, Tryd.ntmps32
    go_wp2_with (first | (go_at_call 37; refine (t37 _ _ (by assumption) (by assumption)).mono ?_; rintro e w' ⟨rfl, rfl⟩) | (go_at_call 36; (with_reducible refine (M1.out _).mono ?_); rintro e w' ⟨rfl, rfl⟩) | (go_at_call 36; (with_reducible refine (M2.out _).mono ?_); rintro e w' ⟨rfl, rfl⟩))
    go_loop [11, 12] (fun r b => ∃ k q : Nat, rtInv S k q ∧ k ≤ 64 ∧ r = .int .u64 q ∧ b = .int .u64 (bt k)) (fun _ b => (intOf b).toNat)
    case atStart => exact ⟨64, 0, rtInv_start S 64 HS.out, by omega, rfl, by rw [B64.out]⟩
    case round =>
      obtain ⟨k, q, hinv, hk, rfl, rfl⟩ := hrel
      cases k with
      | zero =>
        have e0 : bt 0 = 0 := rfl
        have e := rtInv_end HS.out hinv
        have hq : (q : Int) ≤ 18446744073709551615 := by have := rt_lt HS.out; omega
        have H := Lib.hid e
        clear hinv e
        go_wp2_with (go_at_call 42; refine (c42 _ (by assumption) _).mono ?_; rintro e w' ⟨rfl, rfl⟩)
        go_ret
        exact ⟨ret_int (by rw [EH.out, ← H.out]), rfl⟩
      | succ j =>
        have j1 : (j : Int) ≤ 63 := by omega
        have q2 : bt (j + 1) ≤ 9223372036854775808 := by
          show ((2 ^ j : Nat) : Int) ≤ _
          have : 2 ^ j ≤ 2 ^ 63 := Nat.pow_le_pow_right (by omega) (by omega)
          omega
        have q3 := bt_pos j
        have q4 := bt_half j
        obtain ⟨T, hT⟩ : ∃ T, T = q + 2 ^ j := ⟨_, rfl⟩
        have et := or_bt hinv j1 HS.out hT
        have tf : T < 18446744073709551616 := by rw [hT]; exact rtInv_fits (by omega) hinv HS.out
        have hle := halves_le zh zl S (T * T) ES.out (by omega)
        have hy : T * T ≤ S → rtInv S j T := fun h => by rw [hT] at h ⊢; exact rtInv_take hinv h
        have hn : ¬ T * T ≤ S → rtInv S j q := fun h => by rw [hT] at h; exact rtInv_leave hinv h
        have c := fun w => t36 T T tf tf w
        generalize T * T / 18446744073709551616 = th at *
        generalize T * T % 18446744073709551616 = tl at *
        generalize bt (j + 1) = b at *
        have C := Lib.hid c
        clear hT hinv c tf
        have hcases : (th : Int) < zh ∧ rtInv S j T ∨ ((th : Int) == zh) = true ∧ (zh : Int) ≤ th ∧ (tl : Int) ≤ zl ∧ rtInv S j T ∨ ((th : Int) == zh) = true ∧ (zh : Int) ≤ th ∧ (zl : Int) < tl ∧ rtInv S j q ∨ ((th : Int) == zh) = false ∧ (zh : Int) ≤ th ∧ rtInv S j q := by
          by_cases h1 : th < zh
          · exact Or.inl ⟨by omega, hy (hle.1 (Or.inl h1))⟩
          · by_cases h2 : th = zh
            · by_cases h3 : tl ≤ zl
              · exact Or.inr (Or.inl ⟨by simp [h2], by omega, by omega, hy (hle.1 (Or.inr ⟨h2, h3⟩))⟩)
              · exact Or.inr (Or.inr (Or.inl ⟨by simp [h2], by omega, by omega, hn (fun h => by have := hle.2 h; omega)⟩))
            · exact Or.inr (Or.inr (Or.inr ⟨by simp; omega, by omega, hn (fun h => by have := hle.2 h; omega)⟩))
        clear hle hy hn
        rcases hcases with ⟨g1, hi2⟩ | ⟨g1, g2, g3, hi2⟩ | ⟨g1, g2, g3, hi2⟩ | ⟨g1, g2, hi2⟩
        all_goals
          have HI := Lib.hid hi2
          have Q4 := Lib.hid q4
          clear hi2 q4
          go_wp2_with (go_at_call 36; (with_reducible refine (C.out _).mono ?_); rintro e w' ⟨rfl, rfl⟩)
          go_round
          case rel => exact ⟨j, _, HI.out, by omega, rfl, by rw [Q4.out]⟩
          case measure => simp [intOf]; omega
end Go.Proofs.YtcbegpnmidhnjaaDoor
