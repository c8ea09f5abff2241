import Derived.Test.YtogkojedglpekaaProg
import Derived.WalkKit
import Derived.WalkLawsBesides
import Derived.Outline
import Derived.Lib.Walk
import Derived.Deep.QuietTactic
import Derived.BigQuiet
import Derived.RowKit3
import Derived.Deep.LoopGhost
import Derived.Great.Walk
import Derived.Great.BuildSlice
import Derived.Laws.Rows
import Derived.Laws.Tables
import Derived.Laws.CopyOwn
import Derived.Lib.Hide
import Derived.Handy
import Derived.Deep.Onto
import Derived.Laws.IdiomStrings
import Derived.Laws.BitsAllLaws
import Derived.IntWalk
import Derived.Test.YtogkojedglpekaaA1
import Derived.Test.YtogkojedglpekaaA2
import Derived.Test.YtogkojedglpekaaK1
import Derived.Test.YtogkojedglpekaaK2
import Derived.Test.YtogkojedglpekaaB2
import Derived.Test.YtogkojedglpekaaB3
import Derived.Test.YtogkojedglpekaaP3
import Derived.Test.YtogkojedglpekaaP4
import Derived.Test.YtogkojedglpekaaP5
import Derived.Test.YtogkojedglpekaaP6
import Derived.Test.YtogkojedglpekaaR1
import Derived.Test.YtogkojedglpekaaR2
import Derived.Test.YtogkojedglpekaaR3
import Derived.Test.YtogkojedglpekaaA10
namespace Go.Proofs.Ytogkojedglpekaa
open Go.RowKit
set_option maxHeartbeats 400000
set_option linter.unusedVariables false

theorem fnv_nil (h : Nat) : fnv h [] = h := by
  unfold fnv
  rw [List.foldl_nil]
set_option maxHeartbeats 4000000 in
theorem l9 (s t : List UInt8) (c : UInt8) (w : World) (hs : s.length ≤ 200000000000000) (ht : t.length ≤ 200000000000000) : Calls Try.prog 9 #[.string (mkS s), .string (mkS t), .int .u8 (c.toNat : Int)] w fun e w' => e = .returned (.bool true) ∧ Below w.heap.size w w' := by
  have HB := Lib.hid (Below.refl w.heap.size w)
  have A0 := Lib.hid (fun W => c10 W)
  have hz : (mkS s).size = s.length := rfl
  have hzt : (mkS t).size = t.length := rfl
  by_cases hb : 100000 < s.length
  · have h1 : (100000 : Int) < (s.length : Int) := by omega
    clear hs ht
    go_enter Try.func9, Try.ntmps9
    go_wp2_with (go_at_call 10; fail)
    (with_reducible refine (A0.out _).mono ?_)
    rintro e0 w1 ⟨rfl, hb⟩
    have HB := Lib.hid (bel_trans HB.out hb)
    clear hb
    go_wp2_with (go_at_call 10; fail)
    (with_reducible refine (A0.out _).mono ?_)
    rintro e1 w2 ⟨rfl, hb⟩
    have HB := Lib.hid (bel_trans HB.out hb)
    clear hb
    go_wp2
    go_ret
    exact ⟨rfl, HB.out⟩
  by_cases hbt : 100000 < t.length
  · have h1 := decide_eq_false (p := (100000 : Int) < (s.length : Int)) (by omega)
    have h1n := decide_eq_false (p := 100000 < s.length) hb
    have h2 : (100000 : Int) < (t.length : Int) := by omega
    clear hs ht
    go_enter Try.func9, Try.ntmps9
    go_wp2_with (go_at_call 10; fail)
    (with_reducible refine (A0.out _).mono ?_)
    rintro e0 w1 ⟨rfl, hb⟩
    have HB := Lib.hid (bel_trans HB.out hb)
    clear hb
    go_wp2_with (go_at_call 10; fail)
    (with_reducible refine (A0.out _).mono ?_)
    rintro e1 w2 ⟨rfl, hb⟩
    have HB := Lib.hid (bel_trans HB.out hb)
    clear hb
    go_wp2
    go_ret
    exact ⟨rfl, HB.out⟩
  · have h1 := decide_eq_false (p := (100000 : Int) < (s.length : Int)) (by omega)
    have h1n := decide_eq_false (p := 100000 < s.length) hb
    have h2 := decide_eq_false (p := (100000 : Int) < (t.length : Int)) (by omega)
    have h2n := decide_eq_false (p := 100000 < t.length) hbt
    have F1 := Lib.hid (fun W => c13 s W (by omega))
    have F2 := Lib.hid (fun W => c13 t W (by omega))
    have F3 := Lib.hid (fun W => c13 (s ++ t) W (by rw [List.length_append]; omega))
    have F4 := Lib.hid (fun W => c15 (s ++ [c]) W (by rw [List.length_append]; simp; omega))
    have F5 := Lib.hid (fun W => c15 s W (by omega))
    have HT : Hid (mkS s ++ mkS t = mkS (s ++ t)) := Lib.hid (mkS_append _ _)
    have HC : Hid (mkS s ++ mkS [c] = mkS (s ++ [c])) := Lib.hid (mkS_append _ _)
    have hsum : ¬ 9223372036854775807 < s.length + t.length := by omega
    have hsumI : ¬ (9223372036854775807 : Int) < (s.length : Int) + (t.length : Int) := by omega
    have hsum1 : ¬ 9223372036854775807 < s.length + 1 := by omega
    have hsum1I : ¬ (9223372036854775807 : Int) < (s.length : Int) + 1 := by omega
    have hs1 : (mkS [c]).size = 1 := rfl
    obtain ⟨p1, p2, p3⟩ := adler_parts s
    obtain ⟨q1, q2, q3⟩ := adler_parts t
    obtain ⟨r1, r2, r3⟩ := adler_parts (s ++ t)
    have lp := adl_lt s (1, 0) (by decide) (by decide)
    have lq := adl_lt t (1, 0) (by decide) (by decide)
    obtain ⟨j1, j2⟩ := adler_join s t
    rw [← r1, ← p1, ← q1] at j1
    rw [← r2, ← p2, ← p1, ← q2] at j2
    rw [← p1, ← p2] at lp
    rw [← q1, ← q2] at lq
    have hfn : fnv0 (s ++ [c]) = fnvS (fnv0 s) c.toNat := by
      show fnv 14695981039346656037 (s ++ [c]) = _
      rw [fnv_append, fnv_cons, fnv_nil]
    have hfl := fnv_lt s 14695981039346656037 (by decide)
    clear p1 p2 q1 q2 r1 r2
    generalize adler s = x at *
    generalize adler t = y at *
    generalize adler (s ++ t) = z at *
    have hfnI := fnvI (fnv0 s ^^^ c.toNat)
    have hfx := u64_xor_nat (fnv0 s) c.toNat hfl (by have := c.toNat_lt; omega)
    rw [show (fnv0 s ^^^ c.toNat) * 1099511628211 % 18446744073709551616 = fnvS (fnv0 s) c.toNat from rfl, ← hfn] at hfnI
    have HFN := Lib.hid hfn
    clear hfn
    generalize fnv0 (s ++ [c]) = f1 at *
    generalize fnv0 s = f0 at *
    generalize f0 ^^^ c.toNat = fx at *
    have hcw : IntKind.u64.wrap (c.toNat : Int) = (c.toNat : Int) := IntWalk.u64_in _ (by have := c.toNat_lt; omega)
    have x0 : IntKind.u64.wrap (x : Int) = (x : Int) := IntWalk.u64_in _ (by omega)
    have y0 : IntKind.u64.wrap (y : Int) = (y : Int) := IntWalk.u64_in _ (by omega)
    have z0 : IntKind.u64.wrap (z : Int) = (z : Int) := IntWalk.u64_in _ (by omega)
    have t0 : IntKind.u64.wrap (t.length : Int) = (t.length : Int) := IntWalk.u64_in _ (by omega)
    obtain ⟨a, ha⟩ : ∃ a, x % 65536 = a := ⟨_, rfl⟩
    obtain ⟨b, hb'⟩ : ∃ b, x / 65536 = b := ⟨_, rfl⟩
    obtain ⟨d, hd⟩ : ∃ d, y % 65536 = d := ⟨_, rfl⟩
    obtain ⟨g, hg⟩ : ∃ g, y / 65536 = g := ⟨_, rfl⟩
    obtain ⟨m, hm⟩ : ∃ m, t.length % 65521 = m := ⟨_, rfl⟩
    obtain ⟨lo, hlo⟩ : ∃ lo, (a + d + 65520) % 65521 = lo := ⟨_, rfl⟩
    obtain ⟨P, hP⟩ : ∃ P, m * (a + 65520) = P := ⟨_, rfl⟩
    obtain ⟨hi, hhi⟩ : ∃ hi, (b + g + P) % 65521 = hi := ⟨_, rfl⟩
    rw [ha, hd, hlo] at j1
    rw [ha, hb', hg, hm, hP, hhi] at j2
    rw [ha, hb'] at lp
    rw [hd, hg] at lq
    have hPb : P ≤ 65520 * 131040 := by rw [← hP]; exact Nat.mul_le_mul (by omega) (by omega)
    have k1 : (x : Int) % 65536 = (a : Int) := by omega
    have k1t : (x : Int).tmod 65536 = (a : Int) := by rw [Int.tmod_eq_emod_of_nonneg (by omega)]; exact k1
    have k2 : (x : Int) / 65536 = (b : Int) := by omega
    have k2t : (x : Int).tdiv 65536 = (b : Int) := by rw [Int.tdiv_eq_ediv_of_nonneg (by omega)]; exact k2
    have k3 : (y : Int) % 65536 = (d : Int) := by omega
    have k3t : (y : Int).tmod 65536 = (d : Int) := by rw [Int.tmod_eq_emod_of_nonneg (by omega)]; exact k3
    have k4 : (y : Int) / 65536 = (g : Int) := by omega
    have k4t : (y : Int).tdiv 65536 = (g : Int) := by rw [Int.tdiv_eq_ediv_of_nonneg (by omega)]; exact k4
    have b0 : IntKind.u64.wrap (b : Int) = (b : Int) := IntWalk.u64_in _ (by omega)
    have g0 : IntKind.u64.wrap (g : Int) = (g : Int) := IntWalk.u64_in _ (by omega)
    have k5 : (t.length : Int) % 65521 = (m : Int) := by omega
    have k5t : (t.length : Int).tmod 65521 = (m : Int) := by rw [Int.tmod_eq_emod_of_nonneg (by omega)]; exact k5
    have a1 := decide_eq_false (p := (65521 : Int) ≤ (a : Int)) (by omega)
    have a1n := decide_eq_false (p := 65521 ≤ a) (by omega)
    have a2 := decide_eq_false (p := (65521 : Int) ≤ (b : Int)) (by omega)
    have a2n := decide_eq_false (p := 65521 ≤ b) (by omega)
    have a3 := decide_eq_false (p := (65521 : Int) ≤ (d : Int)) (by omega)
    have a3n := decide_eq_false (p := 65521 ≤ d) (by omega)
    have a4 := decide_eq_false (p := (65521 : Int) ≤ (g : Int)) (by omega)
    have a4n := decide_eq_false (p := 65521 ≤ g) (by omega)
    have uu1 : IntKind.u64.wrap ((a : Int) + (d : Int)) = (a : Int) + (d : Int) := IntWalk.u64_in _ (by omega)
    have uu2 : IntKind.u64.wrap ((a : Int) + (d : Int) + 65520) = (a : Int) + (d : Int) + 65520 := IntWalk.u64_in _ (by omega)
    have uu3 : ((a : Int) + (d : Int) + 65520) % 65521 = (lo : Int) := by omega
    have uu3t : ((a : Int) + (d : Int) + 65520).tmod 65521 = (lo : Int) := by rw [Int.tmod_eq_emod_of_nonneg (by omega)]; exact uu3
    have uu4 : IntKind.u64.wrap ((b : Int) + (g : Int)) = (b : Int) + (g : Int) := IntWalk.u64_in _ (by omega)
    have uu5 : IntKind.u64.wrap ((a : Int) + 65520) = (a : Int) + 65520 := IntWalk.u64_in _ (by omega)
    have uu6 : IntKind.u64.wrap ((m : Int) * ((a : Int) + 65520)) = (P : Int) := by rw [show (m : Int) * ((a : Int) + 65520) = (P : Int) by rw [← hP, Int.natCast_mul, Int.natCast_add]; rfl]; exact IntWalk.u64_in _ (by omega)
    have uu7 : IntKind.u64.wrap ((b : Int) + (g : Int) + (P : Int)) = (b : Int) + (g : Int) + (P : Int) := IntWalk.u64_in _ (by omega)
    have uu8 : ((b : Int) + (g : Int) + (P : Int)) % 65521 = (hi : Int) := by omega
    have uu8t : ((b : Int) + (g : Int) + (P : Int)).tmod 65521 = (hi : Int) := by rw [Int.tmod_eq_emod_of_nonneg (by omega)]; exact uu8
    have uu9 : IntKind.u64.wrap ((hi : Int) * 65536) = (hi : Int) * 65536 := IntWalk.u64_in _ (by omega)
    have uu10 : IntKind.u64.wrap ((hi : Int) * 65536 + (lo : Int)) = (z : Int) := by rw [IntWalk.u64_in _ (by omega)]; omega
    have CV := Lib.hid (fun W : World => run_convert_bytes_back (P := Try.prog) (W.alloc (.cells #[.int .u8 (c.toNat : Int)] 5)) 35 9 5 ⟨W.heap.size, 0, none⟩ 1 [c] Try.underlying35 Try.underlying5 Try.underlying9 (fun j hj => by
      rw [addz, World.cell?_alloc_at _ _ _ _ rfl]
      match j, hj with
      | 0, _ => rfl))
    clear ha hb' hd hg hm hlo hP hhi j1 j2 lp lq hPb hs ht p3 q3 r3 hfl HFN
    go_enter Try.func9, Try.ntmps9
    go_wp2_with (go_at_call 10; fail)
    (with_reducible refine (A0.out _).mono ?_)
    rintro e0 w1 ⟨rfl, hb⟩
    have HB := Lib.hid (bel_trans HB.out hb)
    clear hb
    go_wp2_with (go_at_call 13; fail)
    (with_reducible refine (F1.out _).mono ?_)
    rintro e1 w2 ⟨rfl, rfl⟩
    go_wp2_with (go_at_call 13; fail)
    (with_reducible refine (F2.out _).mono ?_)
    rintro e2 w3 ⟨rfl, rfl⟩
    go_wp2_with (go_at_call 13; fail)
    rw [HT.out]
    (with_reducible refine (F3.out _).mono ?_)
    rintro e3 w4 ⟨rfl, rfl⟩
    have hcv := CV.out w1
    simp only [List.length_cons, List.length_nil] at hcv
    have HBA := Lib.hid (HB.out.alloc HB.out.size (.cells #[.int .u8 (c.toNat : Int)] 5))
    go_wp2_with (go_at_call 15; fail)
    rw [HC.out]
    (with_reducible refine (F4.out _).mono ?_)
    rintro e4 w5 ⟨rfl, rfl⟩
    go_wp2_with (go_at_call 15; fail)
    (with_reducible refine (F5.out _).mono ?_)
    rintro e5 w6 ⟨rfl, rfl⟩
    go_wp2
    go_ret
    exact ⟨rfl, HBA.out⟩

end Go.Proofs.Ytogkojedglpekaa
