/-
  The run of the law about sines and cosines: it returns true for any angle, where the table of sines lies in its variable (the condition 'Tab'); the squares of each pair are reckoned by the kernel.
-/
import Derived.Test.YtcbegpnmidhnjaaDoorProg
import Derived.WalkKit
import Derived.WalkLawsBesides
import Derived.Lib.Walk
import Derived.Lib.BitFns
import Derived.Lib.ItoaNum
import Derived.Lib.Mul64
import Derived.Laws.Bits64b
import Derived.Laws.BitsAllLaws
import Derived.Laws.Externs
import Derived.Deep.QuietTactic
import Derived.BigQuiet
import Derived.RowKit3
import Derived.Deep.LoopGhost
import Derived.Great.Walk
import Derived.Great.BuildSlice
import Derived.Laws.Rows
import Derived.Laws.Tables
import Derived.Laws.CopyOwn
import Derived.Lib.Hide
import Derived.Test.YtcbegpnmidhnjaaDoorLaws
namespace Go.Proofs.YtcbegpnmidhnjaaDoor
open Go.RowKit
set_option maxHeartbeats 400000
set_option linter.unusedVariables false
def sq (u : Nat) : Int := qtr u * qtr u + qtr (16384 - u) * qtr (16384 - u) - 4294967296
def chk (I : Nat) : Bool := (List.range 256).all fun F => decide (sq (256 * I + F) ≤ 2097152 ∧ -2097152 ≤ sq (256 * I + F))
theorem chk_all : (List.range 64).all chk = true := by decide +kernel

theorem sq_bd (u : Nat) (h : u ≤ 16384) : sq u ≤ 2097152 ∧ -2097152 ≤ sq u := by
  by_cases he : u = 16384
  · subst he; decide +kernel
  · have h1 := List.all_eq_true.1 chk_all (u / 256) (by simp; omega)
    have h2 := List.all_eq_true.1 h1 (u % 256) (by simp; omega)
    rw [Nat.div_add_mod] at h2
    exact of_decide_eq_true h2
theorem qtr_0 : qtr 0 = 0 := by decide +kernel
theorem sin4_bd (m : Nat) : -65536 ≤ sin4 m ∧ sin4 m ≤ 65536 := by
  have h1 := qtr_bd (m % 16384) (by omega)
  have h2 := qtr_bd (16384 - m % 16384) (by omega)
  unfold sin4
  (repeat' split) <;> omega
/-- the ways of a sine: the quarter and what is left. -/
theorem sin4_q (q r : Nat) (hr : r < 16384) : sin4 (16384 * q + r) = if q = 0 then qtr r else if q = 1 then qtr (16384 - r) else if q = 2 then -qtr r else -qtr (16384 - r) := by
  unfold sin4
  rw [show (16384 * q + r) / 16384 = q by omega, show (16384 * q + r) % 16384 = r by omega]
theorem sin4_neg (m k : Nat) (hm : m < 65536) (hk : k < 65536) (h : (m + k) % 65536 = 0) : sin4 k = -sin4 m := by
  have q0 := qtr_0
  obtain ⟨q, hq⟩ : ∃ q, q = m / 16384 := ⟨_, rfl⟩
  obtain ⟨r, hr⟩ : ∃ r, r = m % 16384 := ⟨_, rfl⟩
  have em : m = 16384 * q + r := by omega
  have hq4 : q = 0 ∨ q = 1 ∨ q = 2 ∨ q = 3 := by omega
  by_cases hr0 : r = 0
  · subst hr0
    rcases hq4 with rfl | rfl | rfl | rfl
    · obtain rfl : m = 0 := by omega
      obtain rfl : k = 0 := by omega
      decide +kernel
    · obtain rfl : m = 16384 := by omega
      obtain rfl : k = 49152 := by omega
      decide +kernel
    · obtain rfl : m = 32768 := by omega
      obtain rfl : k = 32768 := by omega
      decide +kernel
    · obtain rfl : m = 49152 := by omega
      obtain rfl : k = 16384 := by omega
      decide +kernel
  · have ek : k = 16384 * (3 - q) + (16384 - r) := by omega
    rw [ek, em, sin4_q _ _ (by omega), sin4_q _ _ (by omega)]
    rcases hq4 with rfl | rfl | rfl | rfl
    all_goals simp [show 16384 - (16384 - r) = r by omega]
theorem sin4_mirror (m k : Nat) (hm : m < 65536) (hk : k < 65536) (h : (m + k) % 65536 = 32768) : sin4 k = sin4 m := by
  obtain ⟨q, hq⟩ : ∃ q, q = m / 16384 := ⟨_, rfl⟩
  obtain ⟨r, hr⟩ : ∃ r, r = m % 16384 := ⟨_, rfl⟩
  have em : m = 16384 * q + r := by omega
  have hq4 : q = 0 ∨ q = 1 ∨ q = 2 ∨ q = 3 := by omega
  by_cases hr0 : r = 0
  · subst hr0
    rcases hq4 with rfl | rfl | rfl | rfl
    · obtain rfl : m = 0 := by omega
      obtain rfl : k = 32768 := by omega
      decide +kernel
    · obtain rfl : m = 16384 := by omega
      obtain rfl : k = 16384 := by omega
      decide +kernel
    · obtain rfl : m = 32768 := by omega
      obtain rfl : k = 0 := by omega
      decide +kernel
    · obtain rfl : m = 49152 := by omega
      obtain rfl : k = 49152 := by omega
      decide +kernel
  · rcases hq4 with rfl | rfl | rfl | rfl
    · rw [show k = 16384 * 1 + (16384 - r) by omega, em, sin4_q _ _ (by omega), sin4_q _ _ (by omega)]
      simp [show 16384 - (16384 - r) = r by omega]
    · rw [show k = 16384 * 0 + (16384 - r) by omega, em, sin4_q _ _ (by omega), sin4_q _ _ (by omega)]
      simp
    · rw [show k = 16384 * 3 + (16384 - r) by omega, em, sin4_q _ _ (by omega), sin4_q _ _ (by omega)]
      simp [show 16384 - (16384 - r) = r by omega]
    · rw [show k = 16384 * 2 + (16384 - r) by omega, em, sin4_q _ _ (by omega), sin4_q _ _ (by omega)]
      simp
theorem sin4_square (m k : Nat) (hm : m < 65536) (hk : k = (m + 16384) % 65536) : sin4 m * sin4 m + sin4 k * sin4 k - 4294967296 = sq (m % 16384) := by
  obtain ⟨q, hq⟩ : ∃ q, q = m / 16384 := ⟨_, rfl⟩
  obtain ⟨r, hr⟩ : ∃ r, r = m % 16384 := ⟨_, rfl⟩
  have em : m = 16384 * q + r := by omega
  have hq4 : q = 0 ∨ q = 1 ∨ q = 2 ∨ q = 3 := by omega
  rw [← hr]
  unfold sq
  rcases hq4 with rfl | rfl | rfl | rfl
  · rw [show k = 16384 * 1 + r by omega, em, sin4_q _ _ (by omega), sin4_q _ _ (by omega)]
    simp
  · rw [show k = 16384 * 2 + r by omega, em, sin4_q _ _ (by omega), sin4_q _ _ (by omega)]
    first | (simp [Int.neg_mul_neg]; done) | (simp [Int.neg_mul_neg]; omega)
  · rw [show k = 16384 * 3 + r by omega, em, sin4_q _ _ (by omega), sin4_q _ _ (by omega)]
    first | (simp [Int.neg_mul_neg]; done) | (simp [Int.neg_mul_neg]; omega)
  · rw [show k = 16384 * 0 + r by omega, em, sin4_q _ _ (by omega), sin4_q _ _ (by omega)]
    first | (simp [Int.neg_mul_neg]; done) | (simp [Int.neg_mul_neg]; omega)
theorem circle_facts (a : Int) : -65536 ≤ sinT a ∧ sinT a ≤ 65536 ∧ -65536 ≤ cosT a ∧ cosT a ≤ 65536 ∧
    sinT (wrap64 (-a)) = -sinT a ∧ cosT (wrap64 (-a)) = cosT a ∧ sinT (wrap64 (a + 65536)) = sinT a ∧ cosT (wrap64 (a + 65536)) = cosT a ∧
    sinT a * sinT a + cosT a * cosT a - 4294967296 ≤ 2097152 ∧ -2097152 ≤ sinT a * sinT a + cosT a * cosT a - 4294967296 := by
  have w1 : wrap64 (-a) % 65536 = (-a) % 65536 := by unfold wrap64; omega
  have w2 : wrap64 (a + 65536) % 65536 = a % 65536 := by unfold wrap64; omega
  have hsq := sin4_square (a % 65536).toNat ((a % 65536 + 16384) % 65536).toNat (by omega) (by omega)
  have hb := sq_bd ((a % 65536).toNat % 16384) (by omega)
  rw [← hsq] at hb
  unfold sinT cosT
  rw [w1, w2]
  refine ⟨(sin4_bd _).1, (sin4_bd _).2, (sin4_bd _).1, (sin4_bd _).2, ?_, ?_, rfl, rfl, hb.1, hb.2⟩
  · exact sin4_neg _ _ (by omega) (by omega) (by omega)
  · exact sin4_mirror _ _ (by omega) (by omega) (by omega)
theorem sqb (s : Int) (h1 : -65536 ≤ s) (h2 : s ≤ 65536) : 0 ≤ s * s ∧ s * s ≤ 4294967296 := by
  have e : s * s = (s.natAbs * s.natAbs : Nat) := by rw [Int.natCast_mul]; exact (Int.natAbs_mul_self' s).symm
  have := Nat.mul_le_mul (show s.natAbs ≤ 65536 by omega) (show s.natAbs ≤ 65536 by omega)
  omega
set_option maxRecDepth 100000 in
theorem t11 (a : Int) (w : World) (ha : -9223372036854775808 ≤ a) (ha' : a ≤ 9223372036854775807) (hT : Tab w) :
    Calls Tryd.prog 11 #[.int .i64 a] w fun e w' => e = .returned (.bool true) ∧ ∃ k, w' = w.drewN k := by
  have HT := Lib.hid hT
  obtain ⟨s1, s2, c1, c2, k1, k2, k3, k4, q1, q2⟩ := circle_facts a
  have ca := t33 a w hT
  have cb := fun n => t33 (wrap64 (-a)) (w.drewN n) (hT.drewN n)
  have cc := fun n => t33 (wrap64 (a + 65536)) (w.drewN n) (hT.drewN n)
  rw [k1, k2] at cb
  rw [k3, k4] at cc
  generalize sinT a = s at *
  generalize cosT a = c at *
  have ps := sqb s s1 s2
  have pc := sqb c c1 c2
  obtain ⟨ps1, ps2⟩ := ps
  obtain ⟨pc1, pc2⟩ := pc
  have CA := Lib.hid ca
  have CB := Lib.hid cb
  have CC := Lib.hid cc
  have g1 : decide (s < -65536) = false := by simp only [decide_eq_false_iff_not]; omega
  have g2 : decide (65536 < s) = false := by simp only [decide_eq_false_iff_not]; omega
  have g3 : decide (c < -65536) = false := by simp only [decide_eq_false_iff_not]; omega
  have g4 : decide (65536 < c) = false := by simp only [decide_eq_false_iff_not]; omega
  clear ca cb cc k1 k2 k3 k4 hT
  go_enter Tryd.func11, Tryd.ntmps11
  go_wp2_with (first | (go_at_call 33; (with_reducible refine CA.out.mono ?_); rintro e w' ⟨rfl, n1, rfl⟩) | (go_at_call 33; (with_reducible refine (CB.out _).mono ?_); rintro e w' ⟨rfl, n2, rfl⟩) | (go_at_call 33; (with_reducible refine (CC.out _).mono ?_); rintro e w' ⟨rfl, n3, rfl⟩) | (go_at_call 18; refine (t18 _ (HT.out.drewN _)).mono ?_; rintro e w' ⟨rfl, n4, rfl⟩))
  go_ret
  exact ⟨rfl, _, rfl⟩
end Go.Proofs.YtcbegpnmidhnjaaDoor
