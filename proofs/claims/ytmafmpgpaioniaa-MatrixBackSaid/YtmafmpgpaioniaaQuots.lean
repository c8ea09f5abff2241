/-
  The runs of Div64, nearest, Fixed and Ratio, and of the specification's Quotient, Fixed and Ratio: the rounded and saturated quotient of 128 bits by 64 bits, for any integers of their types.
-/
import Derived.Test.YtmafmpgpaioniaaProg
import Derived.WalkKit
import Derived.WalkLawsBesides
import Derived.Lib.Walk
import Derived.Lib.BitFns
import Derived.Lib.ItoaNum
import Derived.Lib.Mul64
import Derived.Laws.Bits64b
import Derived.Laws.BitsAllLaws
import Derived.Laws.Externs
import Derived.Deep.QuietTactic
import Derived.BigQuiet
import Derived.RowKit3
import Derived.Deep.LoopGhost
import Derived.Great.BuildSlice
import Derived.Laws.Rows
import Derived.Laws.Tables
import Derived.Laws.CopyOwn
import Derived.Lib.Hide
import Derived.Test.YtmafmpgpaioniaaInts
namespace Go.Proofs.Ytmafmpgpaioniaa
open Go.RowKit
set_option maxHeartbeats 400000
set_option linter.unusedVariables false
theorem norm_y {n s : Nat} (h0 : 0 < n) (hn : n < 18446744073709551616) (hs : (s : Int) = 64 - (Lib.bitLen n : Int)) :
    (s : Int) ≤ 63 ∧ 9223372036854775808 ≤ n * 2 ^ s ∧ n * 2 ^ s < 18446744073709551616 := by
  have hb := Lib.bitLenAux_bounds 64 n hn (by omega)
  have hl := Lib.bitLen_le n 64 (by omega) hn
  have hbl : Lib.bitLenAux 64 n = Lib.bitLen n := rfl
  rw [hbl] at hb
  obtain ⟨h1, h2, h3⟩ := hb
  generalize Lib.bitLen n = l at *
  have e1 : (9223372036854775808 : Nat) = 2 ^ (l - 1) * 2 ^ s := by
    rw [← Nat.pow_add, show l - 1 + s = 63 by omega]
  have e2 : (18446744073709551616 : Nat) = 2 ^ l * 2 ^ s := by
    rw [← Nat.pow_add, show l + s = 64 by omega]
  refine ⟨by omega, ?_, ?_⟩
  · rw [e1]; exact Nat.mul_le_mul_right _ h2
  · rw [e2]; exact Nat.mul_lt_mul_of_pos_right h3 (Nat.two_pow_pos s)
theorem shl_cast (a s : Nat) : (a : Int) * 2 ^ s = ((a * 2 ^ s : Nat) : Int) := by rw [Int.natCast_mul, Int.natCast_pow]; rfl
theorem norm_u {hi lo n s U L : Nat} (hs : s ≤ 63) (hlo : lo < 18446744073709551616) (hlt : hi < n) (hy : n * 2 ^ s < 18446744073709551616)
    (hU : U = hi * 2 ^ s + lo * 2 ^ s / 18446744073709551616) (hL : L = lo * 2 ^ s % 18446744073709551616) :
    bits .or .u64 (IntKind.u64.wrap ((hi : Int) * 2 ^ s)) ((lo : Int) / 2 ^ (64 - s)) = (U : Int) ∧ IntKind.u64.wrap ((lo : Int) * 2 ^ s) = (L : Int) ∧ U < n * 2 ^ s ∧
      U * 18446744073709551616 + L = (hi * 18446744073709551616 + lo) * 2 ^ s := by
  have hp := Nat.two_pow_pos s
  have e64 : (18446744073709551616 : Nat) = 2 ^ (64 - s) * 2 ^ s := by rw [← Nat.pow_add, show 64 - s + s = 64 by omega]
  have ed : lo * 2 ^ s / 18446744073709551616 = lo / 2 ^ (64 - s) := by rw [e64, Nat.mul_div_mul_right _ _ hp]
  have hd : lo / 2 ^ (64 - s) < 2 ^ s := by
    rw [Nat.div_lt_iff_lt_mul (Nat.two_pow_pos _), Nat.mul_comm, ← e64]; exact hlo
  have hi1 : (hi + 1) * 2 ^ s ≤ n * 2 ^ s := Nat.mul_le_mul_right _ hlt
  rw [Nat.add_mul, Nat.one_mul] at hi1
  have hh : hi * 2 ^ s < 18446744073709551616 := by omega
  refine ⟨?_, ?_, ?_, ?_⟩
  · have e2 : (2 : Int) ^ (64 - s) = ((2 ^ (64 - s) : Nat) : Int) := by simp
    have hd2 : lo / 2 ^ (64 - s) < 18446744073709551616 := by omega
    rw [shl_cast, wrapN _ hh, e2, ← Int.natCast_ediv, u64_or_nat _ _ hh hd2, nat_join s _ _ (Nat.mul_mod_left hi (2 ^ s)) hd, hU, ed]
  · rw [shl_cast, hL]
    generalize lo * 2 ^ s = x
    rw [IntKind.wrap_u64]; omega
  · rw [hU, ed]; omega
  · rw [hU, hL]
    have e3 : (hi * 18446744073709551616 + lo) * 2 ^ s = hi * 2 ^ s * 18446744073709551616 + lo * 2 ^ s := by
      rw [Nat.add_mul, Nat.mul_right_comm]
    rw [e3]
    generalize lo * 2 ^ s = x
    generalize hi * 2 ^ s = z
    omega
/-- what is left behind a digit, as Go reckons it modulo 2^64. -/
theorem digit_rest {U u1 y q R : Nat} (hy' : y < 18446744073709551616) (hy : 0 < y) (hq : q = (U * 4294967296 + u1) / y) (hR : R = (U * 4294967296 + u1) % y) :
    IntKind.u64.wrap (IntKind.u64.wrap (IntKind.u64.wrap ((U : Int) * 4294967296) + (u1 : Int)) - IntKind.u64.wrap ((q : Int) * (y : Int))) = (R : Int) := by
  have e := Nat.div_add_mod (U * 4294967296 + u1) y
  have hm := Nat.mod_lt (U * 4294967296 + u1) hy
  rw [← hq, ← hR] at e
  rw [← hR] at hm
  have e2 : (q : Int) * (y : Int) = ((y * q : Nat) : Int) := by rw [Int.natCast_mul, Int.mul_comm]
  rw [e2]
  generalize y * q = p at *
  simp only [IntKind.wrap_u64]
  omega

/-- the ways through a round of the loop over one digit. -/
theorem dg_ways {U u1 y q rh q1 ya yb : Nat} (hy1 : 9223372036854775808 ≤ y) (hy2 : y < 18446744073709551616) (hu : u1 < 4294967296) (hU : U < y) (eq1 : q1 = (U * 4294967296 + u1) / y)
    (eya : ya = y / 4294967296) (eyb : yb = y % 4294967296) (h : dgInv U u1 y q rh) :
    (∃ k r2 : Nat, ((4294967296 : Int) ≤ q ∨ (q : Int) < 4294967296 ∧ 4294967296 * (rh : Int) + u1 < (q : Int) * yb ∧ (0 : Int) ≤ (q : Int) * yb ∧ (q : Int) * yb ≤ 18446744073709551615) ∧ (q : Int) - 1 = k ∧ (rh : Int) + ya = r2 ∧
      ((r2 : Int) < 4294967296 ∧ dgInv U u1 y k r2 ∨ (4294967296 : Int) ≤ r2 ∧ k = q1)) ∨
    ((q : Int) < 4294967296 ∧ (q : Int) * yb ≤ 4294967296 * (rh : Int) + u1 ∧ (0 : Int) ≤ (q : Int) * yb ∧ (q : Int) * yb ≤ 18446744073709551615 ∧ q = q1) := by
  have hrh := h.2.2.1
  have ep : (q : Int) * yb = ((q * (y % 4294967296) : Nat) : Int) := by rw [eyb]; simp
  rw [ep]
  have hsmall : q < 4294967296 → q * (y % 4294967296) ≤ 18446744073709551615 := fun hq => by
    have : q * (y % 4294967296) ≤ 4294967295 * 4294967295 := Nat.mul_le_mul (by omega) (by omega)
    omega
  by_cases ho : 4294967296 ≤ q ∨ 4294967296 * rh + u1 < q * (y % 4294967296)
  · left
    obtain ⟨g1, g2, g3⟩ := dg_step hu hU h ho
    refine ⟨q - 1, rh + ya, ?_, by omega, by omega, ?_⟩
    · by_cases hq : 4294967296 ≤ q
      · left; omega
      · have := hsmall (by omega)
        rcases ho with ho | ho
        · omega
        · right; omega
    · by_cases hr : rh + ya < 4294967296
      · left; exact ⟨by omega, by rw [eya] at hr ⊢; exact g2 hr⟩
      · right; exact ⟨by omega, by rw [eq1]; exact g3 (by omega)⟩
  · right
    have hq : q < 4294967296 := by omega
    have := hsmall hq
    exact ⟨by omega, by omega, by omega, by omega, by rw [eq1]; exact dg_exit hU h (by omega)⟩
theorem dg_first {U u1 y q1 ya : Nat} (hy1 : 9223372036854775808 ≤ y) (hy2 : y < 18446744073709551616) (hu : u1 < 4294967296) (hU : U < y) (eya : ya = y / 4294967296) :
    ∃ qi ri p : Nat, (U : Int) / ya = qi ∧ (qi : Int) * ya = p ∧ (U : Int) - p = ri ∧ p ≤ U ∧ qi ≤ U ∧ dgInv U u1 y qi ri := by
  have hi := dg_init hy1 hy2 hu hU
  have hd := Nat.div_add_mod U (y / 4294967296)
  refine ⟨U / (y / 4294967296), U % (y / 4294967296), (y / 4294967296) * (U / (y / 4294967296)), ?_, ?_, ?_, ?_, Nat.div_le_self _ _, hi⟩
  · rw [eya, Int.natCast_ediv U]
  · rw [eya, Int.natCast_mul, Int.mul_comm]
  · omega
  · omega
def dgRel (U u1 y q rh : Nat) : Prop := dgInv U u1 y q rh ∧ (q : Int) ≤ 18446744073709551615 ∧ (rh : Int) ≤ 4294967295
theorem dgInv.rel {U u1 y q rh : Nat} (h : dgInv U u1 y q rh) : dgRel U u1 y q rh := ⟨h, by have := h.2.2.2; omega, by have := h.2.2.1; omega⟩
set_option maxRecDepth 100000 in
set_option maxHeartbeats 4000000 in
theorem t49 (hi lo n N : Nat) (eN : N = hi * 18446744073709551616 + lo) (w : World) (hhi : hi < 18446744073709551616) (hlo : lo < 18446744073709551616) (hn : n < 18446744073709551616) (h0 : 0 < hi) (hlt : hi < n) :
    Calls Try.prog 43 #[.int .u64 hi, .int .u64 lo, .int .u64 n] w fun e w' => e = .returned (.tuple #[.int .u64 ((N / n : Nat) : Int), .int .u64 ((N % n : Nat) : Int)]) ∧ w = w' := by
  obtain ⟨s, hs⟩ : ∃ s : Nat, (s : Int) = 64 - (Lib.bitLen n : Int) := ⟨64 - Lib.bitLen n, by have := Lib.bitLen_le n 64 (by omega) hn; omega⟩
  have c := fun w => t53 n w (by omega) (by omega)
  rw [show (n : Int).toNat = n from rfl, ← hs] at c
  obtain ⟨s1, y1, y2⟩ := norm_y (by omega) hn hs
  obtain ⟨U, hU⟩ : ∃ U, U = hi * 2 ^ s + lo * 2 ^ s / 18446744073709551616 := ⟨_, rfl⟩
  obtain ⟨L, hL⟩ : ∃ L, L = lo * 2 ^ s % 18446744073709551616 := ⟨_, rfl⟩
  obtain ⟨eU, eL, hUY, hsum⟩ := norm_u (by omega) hlo hlt y2 hU hL
  have l1 : L < 18446744073709551616 := by rw [hL]; exact Nat.mod_lt _ (by omega)
  have hsc := scaled N n s
  obtain ⟨Y, hY⟩ : ∃ Y, Y = n * 2 ^ s := ⟨_, rfl⟩
  rw [← hY] at y1 y2 hUY hsc
  rw [← eN] at hsum
  have eY : IntKind.u64.wrap ((n : Int) * 2 ^ s) = (Y : Int) := by rw [shl_cast, ← hY, wrapN _ y2]
  obtain ⟨ya, hya⟩ : ∃ ya, ya = Y / 4294967296 := ⟨_, rfl⟩
  obtain ⟨yb, hyb⟩ : ∃ yb, yb = Y % 4294967296 := ⟨_, rfl⟩
  obtain ⟨la, hla⟩ : ∃ la, la = L / 4294967296 := ⟨_, rfl⟩
  obtain ⟨lb, hlb⟩ : ∃ lb, lb = L % 4294967296 := ⟨_, rfl⟩
  have eY1 : (Y : Int) / 4294967296 = (ya : Int) := by omega
  have eY0 := maskN Y y2
  have eL1 : (L : Int) / 4294967296 = (la : Int) := by omega
  have eL0 := maskN L l1
  rw [← hyb] at eY0
  rw [← hlb] at eL0
  have hla2 : la < 4294967296 := by omega
  have hlb2 : lb < 4294967296 := by omega
  obtain ⟨q1, hq1⟩ : ∃ q1, q1 = (U * 4294967296 + la) / Y := ⟨_, rfl⟩
  obtain ⟨R1, hR1⟩ : ∃ R1, R1 = (U * 4294967296 + la) % Y := ⟨_, rfl⟩
  have hRY : R1 < Y := by rw [hR1]; exact Nat.mod_lt _ (by omega)
  obtain ⟨q0, hq0⟩ : ∃ q0, q0 = (R1 * 4294967296 + lb) / Y := ⟨_, rfl⟩
  obtain ⟨R0, hR0⟩ : ∃ R0, R0 = (R1 * 4294967296 + lb) % Y := ⟨_, rfl⟩
  have eR1 := digit_rest (U := U) (u1 := la) y2 (by omega) hq1 hR1
  have eR0 := digit_rest (U := R1) (u1 := lb) y2 (by omega) hq0 hR0
  have q1s : (q1 : Int) ≤ 4294967295 := by have := dg_small hla2 hUY; omega
  have q0s : (q0 : Int) ≤ 4294967295 := by have := dg_small hlb2 hRY; omega
  have eQ : N / n = q1 * 4294967296 + q0 ∧ N % n = R0 / 2 ^ s := by
    have h2 := two_digits U la lb Y (by omega)
    have hLe : la * 4294967296 + lb = L := by rw [hla, hlb, Nat.mul_comm]; exact Nat.div_add_mod L 4294967296
    rw [hLe, hsum, ← hq1, ← hR1, ← hq0, ← hR0] at h2
    rw [h2.1, h2.2] at hsc
    exact ⟨hsc.1.symm, hsc.2.symm⟩
  obtain ⟨qi, ri, p, f1, f2, f3, f4, f5, hinv1⟩ := dg_first (q1 := q1) y1 y2 hla2 hUY hya
  obtain ⟨qj, rj, p', f6, f7, f8, f9, f10, hinv2⟩ := dg_first (q1 := q0) y1 y2 hlb2 hRY hya
  have W1 := fun q rh => Lib.hid (@dg_ways U la Y q rh q1 ya yb y1 y2 hla2 hUY hq1 hya hyb)
  have W2 := fun q rh => Lib.hid (@dg_ways R1 lb Y q rh q0 ya yb y1 y2 hlb2 hRY hq0 hya hyb)
  have HW1 := Lib.hid W1
  have HW2 := Lib.hid W2
  have I1 := Lib.hid hinv1
  have I2 := Lib.hid hinv2
  have C := Lib.hid c
  have EQ := Lib.hid eQ
  have ya1 : (1 : Int) ≤ (ya : Int) := by omega
  have ya2 : (ya : Int) ≤ 4294967295 := by omega
  have la3 : (la : Int) ≤ 4294967295 := by omega
  have lb3 : (lb : Int) ≤ 4294967295 := by omega
  have U3 : (U : Int) ≤ 18446744073709551615 := by omega
  have R3 : (R1 : Int) ≤ 18446744073709551615 := by omega
  have p3 : (p : Int) ≤ 18446744073709551615 := by omega
  have p4 : (p' : Int) ≤ 18446744073709551615 := by omega
  have qi3 : (qi : Int) ≤ 18446744073709551615 := by omega
  have qj3 : (qj : Int) ≤ 18446744073709551615 := by omega
  have hb0 : ((n : Int) == 0) = false := by simp; omega
  have hb1 : ((hi : Int) == 0) = false := by simp; omega
  have hg : ¬ ((n : Int) ≤ (hi : Int)) := by omega
  clear c hs hY hya hyb y1 y2 hhi hlo hn h0 hlt hU hL hUY hsum l1 hsc hla hlb hla2 hlb2 hq1 hR1 hRY hq0 hR0 eQ W1 W2 hinv1 hinv2 f4 f5 f9 f10 eN
  go_enter Try.func43, Try.ntmps43
  go_wp2_with (go_at_call 44; refine (C.out _).mono ?_; rintro e w' ⟨rfl, rfl⟩)
  have ER1 := Lib.hid eR1
  have ER0 := Lib.hid eR0
  have F6 := Lib.hid f6
  have F7 := Lib.hid f7
  have F8 := Lib.hid f8
  clear eR1 eR0 f1 f2 f3 f6 f7 f8 eU eL eY eY1 eY0 eL1 eL0
  go_loopg [15, 16] qi (fun g a b wr => w = wr ∧ ∃ rh : Nat, dgRel U la Y g rh ∧ a = .int .u64 g ∧ b = .int .u64 rh)
  case atStart => exact ⟨rfl, _, I1.out.rel, rfl, rfl⟩
  case round =>
    obtain ⟨rfl, rh, hrl, rfl, rfl⟩ := hrel
    obtain ⟨hinv, hq3, hr3⟩ := hrl
    rcases (HW1.out gk rh).out hinv with ⟨k, r2, ht, e1, e2, hn | hn⟩ | hn
    · obtain ⟨g1, g2⟩ := hn
      have G2 := Lib.hid g2
      have gb : decide ((4294967296 : Int) ≤ (r2 : Int)) = false := by simp only [decide_eq_false_iff_not]; omega
      clear hinv g2 g1
      rcases ht with ht | ⟨t1, t2, t3, t4⟩
      · go_wp2
        go_roundg k
        case rel => exact ⟨rfl, r2, G2.out.rel, rfl, rfl⟩
        case measure => omega
      · have gq : decide ((4294967296 : Int) ≤ (gk : Int)) = false := by simp only [decide_eq_false_iff_not]; omega
        clear t1
        go_wp2
        go_roundg k
        case rel => exact ⟨rfl, r2, G2.out.rel, rfl, rfl⟩
        case measure => omega
    · obtain ⟨g1, rfl⟩ := hn
      clear hinv
      rcases ht with ht | ⟨t1, t2, t3, t4⟩
      · skip
        have eR1 := ER1.out
        have eR0 := ER0.out
        have f6 := F6.out
        have f7 := F7.out
        have f8 := F8.out
        go_wp2
        go_loopg [18, 16] qj (fun g a b wr => w = wr ∧ ∃ rh : Nat, dgRel R1 lb Y g rh ∧ a = .int .u64 g ∧ b = .int .u64 rh)
        case atStart => exact ⟨rfl, _, I2.out.rel, rfl, rfl⟩
        case round =>
          obtain ⟨rfl, rh, hrl, rfl, rfl⟩ := hrel
          obtain ⟨hinv, hq3, hr3⟩ := hrl
          rcases (HW2.out gk rh).out hinv with ⟨k, r2, ht, e1, e2, hn | hn⟩ | hn
          · obtain ⟨g1, g2⟩ := hn
            have G2 := Lib.hid g2
            have gb : decide ((4294967296 : Int) ≤ (r2 : Int)) = false := by simp only [decide_eq_false_iff_not]; omega
            clear hinv g2 g1
            rcases ht with ht | ⟨t1, t2, t3, t4⟩
            · go_wp2
              go_roundg k
              case rel => exact ⟨rfl, r2, G2.out.rel, rfl, rfl⟩
              case measure => omega
            · have gq : decide ((4294967296 : Int) ≤ (gk : Int)) = false := by simp only [decide_eq_false_iff_not]; omega
              clear t1
              go_wp2
              go_roundg k
              case rel => exact ⟨rfl, r2, G2.out.rel, rfl, rfl⟩
              case measure => omega
          · obtain ⟨g1, rfl⟩ := hn
            clear hinv
            rcases ht with ht | ⟨t1, t2, t3, t4⟩
            · skip
              go_wp2
              go_ret2
              exact ⟨ret_two (by rw [EQ.out.1]; simp) (by rw [EQ.out.2]; simp), rfl⟩
            · have gq : decide ((4294967296 : Int) ≤ (gk : Int)) = false := by simp only [decide_eq_false_iff_not]; omega
              clear t1
              go_wp2
              go_ret2
              exact ⟨ret_two (by rw [EQ.out.1]; simp) (by rw [EQ.out.2]; simp), rfl⟩
          · obtain ⟨t1, t2, t3, t4, rfl⟩ := hn
            have gq : decide ((4294967296 : Int) ≤ (gk : Int)) = false := by simp only [decide_eq_false_iff_not]; omega
            have go : decide (4294967296 * (rh : Int) + (lb : Int) < (gk : Int) * (yb : Int)) = false := by simp only [decide_eq_false_iff_not]; omega
            clear hinv t1
            go_wp2
            go_ret2
            exact ⟨ret_two (by rw [EQ.out.1]; simp) (by rw [EQ.out.2]; simp), rfl⟩
      · have gq : decide ((4294967296 : Int) ≤ (gk : Int)) = false := by simp only [decide_eq_false_iff_not]; omega
        clear t1
        have eR1 := ER1.out
        have eR0 := ER0.out
        have f6 := F6.out
        have f7 := F7.out
        have f8 := F8.out
        go_wp2
        go_loopg [18, 16] qj (fun g a b wr => w = wr ∧ ∃ rh : Nat, dgRel R1 lb Y g rh ∧ a = .int .u64 g ∧ b = .int .u64 rh)
        case atStart => exact ⟨rfl, _, I2.out.rel, rfl, rfl⟩
        case round =>
          obtain ⟨rfl, rh, hrl, rfl, rfl⟩ := hrel
          obtain ⟨hinv, hq3, hr3⟩ := hrl
          rcases (HW2.out gk rh).out hinv with ⟨k, r2, ht, e1, e2, hn | hn⟩ | hn
          · obtain ⟨g1, g2⟩ := hn
            have G2 := Lib.hid g2
            have gb : decide ((4294967296 : Int) ≤ (r2 : Int)) = false := by simp only [decide_eq_false_iff_not]; omega
            clear hinv g2 g1
            rcases ht with ht | ⟨t1, t2, t3, t4⟩
            · go_wp2
              go_roundg k
              case rel => exact ⟨rfl, r2, G2.out.rel, rfl, rfl⟩
              case measure => omega
            · have gq : decide ((4294967296 : Int) ≤ (gk : Int)) = false := by simp only [decide_eq_false_iff_not]; omega
              clear t1
              go_wp2
              go_roundg k
              case rel => exact ⟨rfl, r2, G2.out.rel, rfl, rfl⟩
              case measure => omega
          · obtain ⟨g1, rfl⟩ := hn
            clear hinv
            rcases ht with ht | ⟨t1, t2, t3, t4⟩
            · skip
              go_wp2
              go_ret2
              exact ⟨ret_two (by rw [EQ.out.1]; simp) (by rw [EQ.out.2]; simp), rfl⟩
            · have gq : decide ((4294967296 : Int) ≤ (gk : Int)) = false := by simp only [decide_eq_false_iff_not]; omega
              clear t1
              go_wp2
              go_ret2
              exact ⟨ret_two (by rw [EQ.out.1]; simp) (by rw [EQ.out.2]; simp), rfl⟩
          · obtain ⟨t1, t2, t3, t4, rfl⟩ := hn
            have gq : decide ((4294967296 : Int) ≤ (gk : Int)) = false := by simp only [decide_eq_false_iff_not]; omega
            have go : decide (4294967296 * (rh : Int) + (lb : Int) < (gk : Int) * (yb : Int)) = false := by simp only [decide_eq_false_iff_not]; omega
            clear hinv t1
            go_wp2
            go_ret2
            exact ⟨ret_two (by rw [EQ.out.1]; simp) (by rw [EQ.out.2]; simp), rfl⟩
    · obtain ⟨t1, t2, t3, t4, rfl⟩ := hn
      have gq : decide ((4294967296 : Int) ≤ (gk : Int)) = false := by simp only [decide_eq_false_iff_not]; omega
      have go : decide (4294967296 * (rh : Int) + (la : Int) < (gk : Int) * (yb : Int)) = false := by simp only [decide_eq_false_iff_not]; omega
      clear hinv t1
      have eR1 := ER1.out
      have eR0 := ER0.out
      have f6 := F6.out
      have f7 := F7.out
      have f8 := F8.out
      go_wp2
      go_loopg [18, 16] qj (fun g a b wr => w = wr ∧ ∃ rh : Nat, dgRel R1 lb Y g rh ∧ a = .int .u64 g ∧ b = .int .u64 rh)
      case atStart => exact ⟨rfl, _, I2.out.rel, rfl, rfl⟩
      case round =>
        obtain ⟨rfl, rh, hrl, rfl, rfl⟩ := hrel
        obtain ⟨hinv, hq3, hr3⟩ := hrl
        rcases (HW2.out gk rh).out hinv with ⟨k, r2, ht, e1, e2, hn | hn⟩ | hn
        · obtain ⟨g1, g2⟩ := hn
          have G2 := Lib.hid g2
          have gb : decide ((4294967296 : Int) ≤ (r2 : Int)) = false := by simp only [decide_eq_false_iff_not]; omega
          clear hinv g2 g1
          rcases ht with ht | ⟨t1, t2, t3, t4⟩
          · go_wp2
            go_roundg k
            case rel => exact ⟨rfl, r2, G2.out.rel, rfl, rfl⟩
            case measure => omega
          · have gq : decide ((4294967296 : Int) ≤ (gk : Int)) = false := by simp only [decide_eq_false_iff_not]; omega
            clear t1
            go_wp2
            go_roundg k
            case rel => exact ⟨rfl, r2, G2.out.rel, rfl, rfl⟩
            case measure => omega
        · obtain ⟨g1, rfl⟩ := hn
          clear hinv
          rcases ht with ht | ⟨t1, t2, t3, t4⟩
          · skip
            go_wp2
            go_ret2
            exact ⟨ret_two (by rw [EQ.out.1]; simp) (by rw [EQ.out.2]; simp), rfl⟩
          · have gq : decide ((4294967296 : Int) ≤ (gk : Int)) = false := by simp only [decide_eq_false_iff_not]; omega
            clear t1
            go_wp2
            go_ret2
            exact ⟨ret_two (by rw [EQ.out.1]; simp) (by rw [EQ.out.2]; simp), rfl⟩
        · obtain ⟨t1, t2, t3, t4, rfl⟩ := hn
          have gq : decide ((4294967296 : Int) ≤ (gk : Int)) = false := by simp only [decide_eq_false_iff_not]; omega
          have go : decide (4294967296 * (rh : Int) + (lb : Int) < (gk : Int) * (yb : Int)) = false := by simp only [decide_eq_false_iff_not]; omega
          clear hinv t1
          go_wp2
          go_ret2
          exact ⟨ret_two (by rw [EQ.out.1]; simp) (by rw [EQ.out.2]; simp), rfl⟩

theorem shl1_or (x b : Nat) (hb : b < 2) : bits .or .u64 (IntKind.u64.wrap ((x : Int) * 2)) (b : Int) = ((x * 2 % 18446744073709551616 + b : Nat) : Int) := by
  have e : IntKind.u64.wrap ((x : Int) * 2) = ((x * 2 % 18446744073709551616 : Nat) : Int) := by rw [IntKind.wrap_u64]; omega
  rw [e, u64_or_nat _ _ (Nat.mod_lt _ (by omega)) (by omega), nat_join 1 _ _ (by omega) (by omega)]
theorem or1 (x : Nat) (hx : x < 18446744073709551616) (he : x % 2 = 0) : bits .or .u64 (x : Int) 1 = ((x + 1 : Nat) : Int) := by
  have := u64_or_nat x 1 hx (by omega)
  rw [nat_join 1 x 1 (by omega) (by omega)] at this
  exact this
theorem q_ways {N d k hi lo q1 q0 r : Nat} (h : qInv N d (k + 1) hi lo q1 q0 r) (hk : k < 128) (hd : d < 18446744073709551616) :
    ∃ b ov rb qb hi2 lo2 q12 q02 r1 : Nat, (lo : Int) / 9223372036854775808 = b ∧ (r : Int) / 9223372036854775808 = ov ∧ (hi : Int) / 9223372036854775808 = rb ∧ (q0 : Int) / 9223372036854775808 = qb ∧
      bits .or .u64 (IntKind.u64.wrap ((r : Int) * 2)) (rb : Int) = (r1 : Int) ∧ bits .or .u64 (IntKind.u64.wrap ((hi : Int) * 2)) (b : Int) = (hi2 : Int) ∧ IntKind.u64.wrap ((lo : Int) * 2) = (lo2 : Int) ∧
      bits .or .u64 (IntKind.u64.wrap ((q1 : Int) * 2)) (qb : Int) = (q12 : Int) ∧ IntKind.u64.wrap ((q0 : Int) * 2) = (q02 : Int) ∧
      ((ov = 0 ∧ (r1 : Int) < d ∧ qInv N d k hi2 lo2 q12 q02 r1) ∨
       (∃ r2 q03 : Nat, (ov = 1 ∨ ov = 0 ∧ (d : Int) ≤ r1) ∧ IntKind.u64.wrap ((r1 : Int) - d) = (r2 : Int) ∧ bits .or .u64 (q02 : Int) 1 = (q03 : Int) ∧ qInv N d k hi2 lo2 q12 q03 r2)) := by
  have hroom := qInv_room h
  have hrd : r < d := by obtain ⟨P, E, h1, h2, h3, h4, h5, h6, h7, h8⟩ := h; exact h4
  have hb : hi < 18446744073709551616 ∧ lo < 18446744073709551616 ∧ q0 < 18446744073709551616 := by obtain ⟨P, E, h1, h2, h3, h4, h5, h6, h7, h8⟩ := h; exact ⟨h6, h7, h8⟩
  obtain ⟨hb1, hb2, hb3⟩ := hb
  refine ⟨lo / 9223372036854775808, r / 9223372036854775808, hi / 9223372036854775808, q0 / 9223372036854775808,
    hi * 2 % 18446744073709551616 + lo / 9223372036854775808, lo * 2 % 18446744073709551616, q1 * 2 % 18446744073709551616 + q0 / 9223372036854775808, q0 * 2 % 18446744073709551616,
    r * 2 % 18446744073709551616 + hi / 9223372036854775808, by omega, by omega, by omega, by omega, shl1_or _ _ (by omega), shl1_or _ _ (by omega), ?_, shl1_or _ _ (by omega), ?_, ?_⟩
  · rw [IntKind.wrap_u64]; omega
  · rw [IntKind.wrap_u64]; omega
  · by_cases hlt : r * 2 + hi / 9223372036854775808 < d
    · left
      refine ⟨by omega, by omega, qInv_step (s := 0) h hk (by omega) (by omega) (by omega) (by omega) (Or.inl rfl) (by omega) (by omega)⟩
    · right
      refine ⟨r * 2 + hi / 9223372036854775808 - d, q0 * 2 % 18446744073709551616 + 1, by omega, ?_, or1 _ (by omega) (by omega), qInv_step (s := 1) h hk (by omega) (by omega) (by omega) (by omega) (Or.inr rfl) (by omega) (by omega)⟩
      rw [IntKind.wrap_u64]; omega

theorem qInv_fin {N d hi lo q1 q0 r : Nat} (hN : N < 340282366920938463463374607431768211456) (h : qInv N d 0 hi lo q1 q0 r) :
    q1 = N / d / 18446744073709551616 ∧ q0 = N / d % 18446744073709551616 ∧ r = N % d := by
  have hq0 : q0 < 18446744073709551616 := by obtain ⟨P, E, h1, h2, h3, h4, h5, h6, h7, h8⟩ := h; exact h8
  obtain ⟨h1, h2⟩ := qInv_end h
  have h3 : N = d * (q1 * 18446744073709551616 + q0) + r := by
    apply Int.ofNat_inj.1
    simp only [Int.natCast_add, Int.natCast_mul]
    exact h1
  have h4 : N / d = q1 * 18446744073709551616 + q0 := by
    rw [h3, Nat.mul_add_div (by omega), Nat.div_eq_of_lt h2, Nat.add_zero]
  have h5 : N % d = r := by rw [h3, Nat.mul_add_mod, Nat.mod_eq_of_lt h2]
  rw [h4, h5]
  refine ⟨by omega, by omega, rfl⟩
theorem t38 (hi lo n N : Nat) (eN : N = hi * 18446744073709551616 + lo) (neg : Bool) (w : World) (hhi : hi < 18446744073709551616) (hlo : lo < 18446744073709551616) (hn : n < 18446744073709551616) :
    Calls Try.prog 41 #[.int .u64 hi, .int .u64 lo, .int .u64 n, .bool neg] w fun e w' => e = .returned (.int .i64 (dv N n neg)) ∧ ∃ k, w' = w.drewN k := by
  refine t38_of hi lo n N eN neg w hhi hlo hn (fun h0 hlt w => ?_)
  by_cases hz : hi = 0
  · subst hz
    obtain rfl : N = lo := by omega
    exact t49z N n w hlo hn h0
  · exact (t49 hi lo n N eN w hhi hlo hn (by omega) hlt).mono fun e w' h => ⟨h.1, 0, h.2.symm⟩
def fixd (a b : Int) : Int := dv (a.natAbs * b.natAbs) 65536 (ngb a b)
def rati (a b : Int) : Int := dv (a.natAbs * 65536) b.natAbs (ngb a b)
theorem ngb_bool (a b : Int) : (!decide (a < 0) == decide (b < 0)) = ngb a b := by
  unfold ngb
  cases decide (a < 0) <;> cases decide (b < 0) <;> rfl
theorem mul_lt (x y : Nat) (hx : x ≤ 9223372036854775808) (hy : y ≤ 9223372036854775808) : x * y ≤ 85070591730234615865843651857942052864 := Nat.mul_le_mul hx hy
theorem t27 (a b : Int) (w : World) (ha : -9223372036854775808 ≤ a) (ha' : a ≤ 9223372036854775807) (hb : -9223372036854775808 ≤ b) (hb' : b ≤ 9223372036854775807) :
    Calls Try.prog 31 #[.int .i64 a, .int .i64 b] w fun e w' => e = .returned (.int .i64 (rati a b)) ∧ ∃ k, w' = w.drewN k := by
  have c : ∀ w, Calls Try.prog 39 #[.int .u64 a.natAbs, .int .u64 65536] w fun e w' => e = .returned (.tuple #[.int .u64 ((a.natAbs * 65536 / 18446744073709551616 : Nat) : Int), .int .u64 ((a.natAbs * 65536 % 18446744073709551616 : Nat) : Int)]) ∧ w = w' := fun w => t41 a.natAbs 65536 (by omega) (by omega) w
  have ef : rati a b = dv (a.natAbs * 65536) b.natAbs (ngb a b) := rfl
  have d := fun neg w => t38 (a.natAbs * 65536 / 18446744073709551616) (a.natAbs * 65536 % 18446744073709551616) b.natAbs (a.natAbs * 65536) (by omega) neg w (by omega) (by omega) (by omega)
  generalize a.natAbs * 65536 / 18446744073709551616 = ph at *
  generalize a.natAbs * 65536 % 18446744073709551616 = pl at *
  generalize a.natAbs * 65536 = P at *
  have C := Lib.hid c
  have D := Lib.hid d
  have E := Lib.hid ef
  clear c d ef
  go_enter Try.func31, Try.ntmps31
  go_wp2_with (first | (go_at_call 40; refine (t39 _ _ (by assumption) (by assumption)).mono ?_; rintro e w' ⟨rfl, rfl⟩) | (go_at_call 39; (with_reducible refine (C.out _).mono ?_); rintro e w' ⟨rfl, rfl⟩) | (go_at_call 41; refine (D.out _ _).mono ?_; rintro e w' ⟨rfl, nq, rfl⟩))
  go_ret
  exact ⟨ret_int (by rw [E.out, ← ngb_bool]), _, rfl⟩
theorem rnd_16 (P : Nat) (neg : Bool) : rnd P 65536 neg = (P + (if neg then 32767 else 32768)) / 65536 := by
  unfold rnd; cases neg <;> simp <;> omega
theorem fix_key (P : Nat) (hP : P ≤ 85070591730234615865843651857942052864) (half : Nat) (hh : half ≤ 32768) :
    ∃ sm h2 a b : Nat, IntKind.u64.wrap (((P % 18446744073709551616 : Nat) : Int) + (half : Int)) = (sm : Int) ∧
      ((sm : Int) < (P % 18446744073709551616 : Nat) ∧ ((P / 18446744073709551616 : Nat) : Int) + 1 = h2 ∧ decide (sm < P % 18446744073709551616) = true ∨ ((P % 18446744073709551616 : Nat) : Int) ≤ sm ∧ h2 = P / 18446744073709551616 ∧ decide (sm < P % 18446744073709551616) = false) ∧
      (h2 : Int) / 65536 = a ∧ bits .or .u64 (IntKind.u64.wrap ((h2 : Int) * 281474976710656)) ((sm : Int) / 65536) = (b : Int) ∧ (h2 : Int) ≤ 18446744073709551615 ∧ (sm : Int) ≤ 18446744073709551615 ∧
      a < 18446744073709551616 ∧ b < 18446744073709551616 ∧ (a : Int) * 18446744073709551616 + b = ((P + half) / 65536 : Nat) := by
  have hp1 : P / 18446744073709551616 ≤ 4611686018427387904 := by omega
  obtain ⟨p1, hp1e⟩ : ∃ p1, p1 = P / 18446744073709551616 := ⟨_, rfl⟩
  obtain ⟨p0, hp0e⟩ : ∃ p0, p0 = P % 18446744073709551616 := ⟨_, rfl⟩
  have eP : (P : Int) = (p1 : Int) * 18446744073709551616 + p0 := by omega
  have hp0 : p0 < 18446744073709551616 := by omega
  rw [← hp1e] at hp1
  rw [← hp1e, ← hp0e]
  have key : ∃ sm h2 : Nat, IntKind.u64.wrap ((p0 : Int) + (half : Int)) = (sm : Int) ∧ ((sm : Int) < p0 ∧ (p1 : Int) + 1 = h2 ∧ decide (sm < p0) = true ∨ (p0 : Int) ≤ sm ∧ h2 = p1 ∧ decide (sm < p0) = false) ∧
      (P : Int) + half = (h2 : Int) * 18446744073709551616 + sm ∧ sm < 18446744073709551616 ∧ (h2 : Int) ≤ 4611686018427387905 := by
    by_cases hc : p0 + half < 18446744073709551616
    · refine ⟨p0 + half, p1, ?_, Or.inr ⟨by omega, rfl, by simp⟩, by omega, hc, by omega⟩
      rw [IntKind.wrap_u64]; omega
    · obtain ⟨z, hz⟩ : ∃ z, p0 + half = z + 18446744073709551616 := Nat.exists_eq_add_of_le' (by omega)
      have hz' : (p0 : Int) + half = z + 18446744073709551616 := by omega
      clear hz
      refine ⟨z, p1 + 1, ?_, Or.inl ⟨by omega, by omega, by simp only [decide_eq_true_eq]; omega⟩, by omega, by omega, by omega⟩
      rw [IntKind.wrap_u64]; omega
  obtain ⟨sm, h2, k1, k2, k3, k4, k5⟩ := key
  have e1 : IntKind.u64.wrap ((h2 : Int) * 281474976710656) = ((h2 % 65536 * 281474976710656 : Nat) : Int) := by rw [IntKind.wrap_u64]; omega
  have e2 : (sm : Int) / 65536 = ((sm / 65536 : Nat) : Int) := by omega
  refine ⟨sm, h2, h2 / 65536, h2 % 65536 * 281474976710656 + sm / 65536, k1, k2, by omega, ?_, by omega, by omega, by omega, by omega, ?_⟩
  · rw [e1, e2, u64_or_nat _ _ (by omega) (by omega), nat_join 48 _ _ (by omega) (by omega)]
  · omega

theorem fix_sgd {a b : Int} {neg : Bool} {half x y : Nat} (hn : ngb a b = neg) (hh : half = if neg then 32767 else 32768)
    (k9 : (x : Int) * 18446744073709551616 + y = ((a.natAbs * b.natAbs + half) / 65536 : Nat)) : sgd (x * 18446744073709551616 + y) neg = fixd a b := by
  unfold fixd dv
  rw [if_neg (by omega), rnd_16, hn, ← hh]
  congr 1
  omega
theorem up_ways {N d q1 q0 r : Nat} (neg : Bool) (hd : 0 < d) (hN : N < 1208925819614629174706176) (e1 : q1 = N / d / 18446744073709551616) (e0 : q0 = N / d % 18446744073709551616) (er : r = N % d) :
    (¬ (if neg then d < 2 * r else d ≤ 2 * r) ∧ q1 * 18446744073709551616 + q0 = rnd N d neg) ∨
    ((if neg then d < 2 * r else d ≤ 2 * r) ∧ ∃ x y : Nat, IntKind.u64.wrap ((q0 : Int) + 1) = (y : Int) ∧ ((((y : Int) == 0) = true ∧ (q1 : Int) + 1 = x) ∨ (((y : Int) == 0) = false ∧ (q1 : Int) = x)) ∧ x < 18446744073709551616 ∧ y < 18446744073709551616 ∧ x * 18446744073709551616 + y = rnd N d neg) := by
  have e := rnd_parts neg (Nat.div_add_mod N d).symm (Nat.mod_lt N hd)
  rw [← er] at e
  have hQ : N / d < 1208925819614629174706176 := Nat.lt_of_le_of_lt (Nat.div_le_self _ _) hN
  generalize N / d = Q at *
  by_cases hup : (if neg then d < 2 * r else d ≤ 2 * r)
  · right
    rw [if_pos hup] at e
    refine ⟨hup, ?_⟩
    rw [e]
    by_cases hq : q0 = 18446744073709551615
    · exact ⟨q1 + 1, 0, by rw [IntKind.wrap_u64, hq]; rfl, Or.inl ⟨rfl, by omega⟩, by omega, by omega, by omega⟩
    · exact ⟨q1, q0 + 1, by rw [IntKind.wrap_u64]; omega, Or.inr ⟨by simp; omega, rfl⟩, by omega, by omega, by omega⟩
  · left
    rw [if_neg hup] at e
    exact ⟨hup, by rw [e]; omega⟩
end Go.Proofs.Ytmafmpgpaioniaa
