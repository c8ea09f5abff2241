import Derived.Test.YtecpdngaagmgfaaProg
import Derived.WalkKit
import Derived.WalkLawsBesides
import Derived.Outline
import Derived.Lib.Walk
import Derived.Deep.QuietTactic
import Derived.BigQuiet
import Derived.RowKit3
import Derived.Deep.LoopGhost
import Derived.Great.Walk
import Derived.Great.BuildSlice
import Derived.Laws.Rows
import Derived.Laws.Tables
import Derived.Laws.CopyOwn
import Derived.Lib.Hide
import Derived.Handy
import Derived.Deep.Onto
import Derived.Laws.IdiomStrings
import Derived.Laws.BytesString
import Derived.Test.YtecpdngaagmgfaaA1
import Derived.Test.YtecpdngaagmgfaaA2
import Derived.Test.YtecpdngaagmgfaaA3
import Derived.Test.YtecpdngaagmgfaaB1
import Derived.Test.YtecpdngaagmgfaaB2
import Derived.Test.YtecpdngaagmgfaaB3
namespace Go.Proofs.Ytecpdngaagmgfaa
open Go.RowKit
set_option maxHeartbeats 400000
set_option linter.unusedVariables false

theorem conv_one (W : World) (c : UInt8) : (convert 56 9 (.slice (some ⟨W.heap.size, 0, none⟩) 1 1)).run Try.prog (W.alloc (.cells #[.int .u8 (c.toNat : Int)] 5)) = .ok (.string (mkS [c])) (W.alloc (.cells #[.int .u8 (c.toNat : Int)] 5)) := by
  refine run_convert_bytes_back _ 56 9 5 ⟨W.heap.size, 0, none⟩ 1 [c] Try.underlying56 Try.underlying5 Try.underlying9 (fun j hj => ?_)
  have : j = 0 := by simpa using hj
  subst this
  simp [Addr.add]
set_option maxHeartbeats 2000000 in
theorem g10 (n : Nat) (w : World) (hn : n < 18446744073709551616) : Calls Try.prog 10 #[.int .u64 (n : Int)] w fun e w' => e = .returned (.string (mkS (encU n))) ∧ Below w.heap.size w w' := by
  go_enter Try.func10, Try.ntmps10
  go_wp2
  go_loopw [0, 3] (fun nn out W => ∃ (f m : Nat) (ys : List UInt8), nn = .int .u64 (m : Int) ∧ m < 18446744073709551616 ∧ Hid (m < 128 ^ (f + 1)) ∧ out = .string (mkS ys) ∧ Below w.heap.size w W ∧ Hid (ys ++ encF f m = encU n) ∧ ys.length + f ≤ 9) (fun nn _ _ => (intOf nn).toNat)
  case atStart => exact ⟨9, n, [], rfl, hn, Lib.hid (by rw [show (128 : Nat) ^ (9 + 1) = 1180591620717411303424 by decide]; omega), rfl, Below.refl _ _, Lib.hid rfl, by simp⟩
  case round =>
    obtain ⟨f, m, ys, rfl, hm, hf, rfl, hnx, he, hl⟩ := hrel
    by_cases hbig : 128 ≤ m
    · have h1 : (128 : Int) ≤ (m : Int) := by omega
      obtain ⟨f, rfl⟩ : ∃ f', f = f' + 1 := by
        cases f with
        | zero => exact absurd hf.out (by simp; omega)
        | succ f' => exact ⟨f', rfl⟩
      have hE : bits .or .u64 (bits .and .u64 (m : Int) 127) 128 % 256 = ((UInt8.ofNat (m % 128 + 128)).toNat : Int) := by
        rw [and64 m hm, or64_128, ofNat_lt (by omega)]
        omega
      have hconv := conv_one wr (UInt8.ofNat (m % 128 + 128))
      rw [← hE] at hconv
      have hz1 : (mkS ys).size = ys.length := rfl
      have hz2 : (mkS [UInt8.ofNat (m % 128 + 128)]).size = 1 := rfl
      have hsum : ¬ 9223372036854775807 < ys.length + 1 := by omega
      have hs : Hid (ys ++ [UInt8.ofNat (m % 128 + 128)] ++ encF f (m / 128) = encU n) := Lib.hid (by rw [← he.out, encF_more hbig]; simp)
      have hf2 : Hid (m / 128 < 128 ^ (f + 1)) := Lib.hid (by
        have h2 := hf.out
        rw [Nat.pow_succ] at h2
        exact Nat.div_lt_of_lt_mul (by rw [Nat.mul_comm]; exact h2))
      clear hf he hE
      obtain ⟨c, hcc⟩ : ∃ c, UInt8.ofNat (m % 128 + 128) = c := ⟨_, rfl⟩
      rw [hcc] at hconv hz2 hs
      clear hcc
      go_wp2
      go_roundw
      case rel => exact ⟨f, m / 128, ys ++ [c], by simp, by omega, hf2, by rw [mkS_append], hnx.alloc hnx.size _, hs, by simp; omega⟩
      case measure => simp [intOf]; omega
    · have h1 := decide_eq_false (p := (128 : Int) ≤ (m : Int)) (by omega)
      have h2 := decide_eq_false (p := 128 ≤ m) hbig
      have hE : (m : Int) = ((UInt8.ofNat m).toNat : Int) := by rw [ofNat_lt (by omega)]
      have hconv := conv_one wr (UInt8.ofNat m)
      rw [← hE] at hconv
      have hz1 : (mkS ys).size = ys.length := rfl
      have hz2 : (mkS [UInt8.ofNat m]).size = 1 := rfl
      have hsum : ¬ 9223372036854775807 < ys.length + 1 := by omega
      have hs : Hid (mkS ys ++ mkS [UInt8.ofNat m] = mkS (encU n)) := Lib.hid (by rw [mkS_append, ← he.out, encF_one (by omega)])
      have HX := Lib.hid (hnx.alloc hnx.size (.cells #[.int .u8 (m : Int)] 5))
      clear he hf hE hnx
      go_wp2
      go_ret
      exact ⟨by rw [← hs.out]; rfl, HX.out⟩
set_option maxHeartbeats 2000000 in
theorem g12 (n : Int) (w : World) (hn : i64 n) : Calls Try.prog 12 #[.int .i64 n] w fun e w' => e = .returned (.string (mkS (encI n))) ∧ Below w.heap.size w w' := by
  have c := g10 (zig n) w (zig_lt hn)
  obtain ⟨h1, h2⟩ := hn
  by_cases h0 : 0 ≤ n
  · rw [zig_pos h0] at c
    have C := Lib.hid c
    have h3 := decide_eq_true h0
    clear c
    go_enter Try.func12, Try.ntmps12
    go_wp2_with (go_at_call 10; fail)
    (with_reducible refine C.out.mono ?_)
    rintro e w1 ⟨rfl, HF⟩
    have HF := Lib.hid HF
    go_wp2
    go_ret
    exact ⟨rfl, HF.out⟩
  · have hneg : n < 0 := by omega
    have h3 := decide_eq_false h0
    rw [show ((zig n : Nat) : Int) = -(n + 1) * 2 + 1 by unfold zig; rw [if_neg h0]; omega] at c
    have C := Lib.hid c
    clear c
    have k1 : IntKind.i64.wrap (n + 1) = n + 1 := IntWalk.i64_in _ (by omega)
    have k2 : IntKind.i64.wrap (-(n + 1)) = -(n + 1) := IntWalk.i64_in _ (by omega)
    have k3 : IntKind.u64.wrap (-(n + 1)) = -(n + 1) := IntWalk.u64_in _ (by omega)
    have k4 : IntKind.u64.wrap (-(n + 1) * 2) = -(n + 1) * 2 := IntWalk.u64_in _ (by omega)
    have k5 : IntKind.u64.wrap (-(n + 1) * 2 + 1) = -(n + 1) * 2 + 1 := IntWalk.u64_in _ (by omega)
    go_enter Try.func12, Try.ntmps12
    go_wp2_with (go_at_call 10; fail)
    (with_reducible refine C.out.mono ?_)
    rintro e w1 ⟨rfl, HF⟩
    have HF := Lib.hid HF
    go_wp2
    go_ret
    exact ⟨rfl, HF.out⟩
set_option maxHeartbeats 2000000 in
theorem g14 (s : List UInt8) (w : World) (hs : s.length ≤ 9000000000000000000) : Calls Try.prog 14 #[.string (mkS s)] w fun e w' => e = .returned (.string (mkS (encT s))) ∧ Below w.heap.size w w' := by
  obtain ⟨n, hn⟩ : ∃ n, s.length = n := ⟨_, rfl⟩
  have hz : (mkS s).size = n := by rw [← hn]; rfl
  have C := Lib.hid (g10 n w (by omega))
  have hle := encU_len n
  have HT : Hid (mkS (encU n) ++ mkS s = mkS (encT s)) := Lib.hid (by rw [← hn]; unfold encT; exact mkS_append _ _)
  have hz1 : (mkS (encU n)).size = (encU n).length := rfl
  have hsum : ¬ 9223372036854775807 < (encU n).length + n := by omega
  go_enter Try.func14, Try.ntmps14
  go_wp2_with (go_at_call 10; fail)
  (with_reducible refine C.out.mono ?_)
  rintro e w1 ⟨rfl, hb⟩
  have HB := Lib.hid hb
  clear hb C hn
  go_wp2
  go_ret
  exact ⟨by rw [HT.out]; rfl, HB.out⟩
set_option maxHeartbeats 2000000 in
theorem g16 (v : Value) (l : List Int) (w : World) (h : argI w w.heap.size v l) (hl : l.length ≤ 17592186044416) (hx : ∀ x ∈ l, i64 x) : Calls Try.prog 16 #[v] w fun e w' => e = .returned (.string (mkS (encL l))) ∧ Below w.heap.size w w' := by
  obtain ⟨ao, cap, rfl, h⟩ := h
  obtain ⟨n, hn⟩ : ∃ n, l.length = n := ⟨_, rfl⟩
  rw [hn] at h hl ⊢
  have HN := Lib.hid hn
  have H := Lib.hid h
  have HX := Lib.hid hx
  have C := Lib.hid (g10 n w (by omega))
  clear hn h hx
  go_enter Try.func16, Try.ntmps16
  go_wp2_with (go_at_call 10; fail)
  (with_reducible refine C.out.mono ?_)
  rintro e w1 ⟨rfl, hb1⟩
  clear C
  go_wp2
  go_loopw [3, 4] (fun b i W => ∃ k : Nat, k ≤ n ∧ i = .int .i64 (k : Int) ∧ b = .string (mkS (encU n ++ (l.take k).flatMap encI)) ∧ Below w.heap.size w W) (fun _ i _ => (n - (intOf i).toNat))
  case atStart => exact ⟨0, by omega, rfl, by simp, hb1⟩
  case round =>
    clear hb1
    obtain ⟨k, hk, rfl, rfl, hnx⟩ := hrel
    by_cases hlt : k < n
    · obtain ⟨g, o, rfl, hg, hc⟩ := H.out (by omega)
      have f0 := (hnx.cell (p := ⟨g, o + k, none⟩) hg).trans (hc k hlt)
      have hxk := HX.out _ (getI_mem (l := l) (k := k) (by rw [HN.out]; exact hlt))
      have hts := takeI_succ l k (by rw [HN.out]; exact hlt)
      have hfl := flat_len (l.take k)
      have htl := List.length_take_le k l
      have hul := (encU_len n).2
      have hbl : (encU n ++ (l.take k).flatMap encI).length ≤ 200000000000000 := by rw [List.length_append]; omega
      generalize l.getD k 0 = x at *
      obtain ⟨Y, hY⟩ : ∃ Y, encU n ++ (l.take k).flatMap encI = Y := ⟨_, rfl⟩
      rw [hY] at hbl ⊢
      have HT : Hid (mkS Y ++ mkS (encI x) = mkS (encU n ++ (l.take (k + 1)).flatMap encI)) := Lib.hid (by rw [hts, ← List.append_assoc, hY, mkS_append])
      have C := Lib.hid (g12 x wr hxk)
      have kk : IntKind.i64.wrap ((k : Int) + 1) = (k : Int) + 1 := IntWalk.i64_in _ (by omega)
      have hz := hnx.size
      have hlx := (encI_len x).2
      have hz1 : (mkS Y).size = Y.length := rfl
      have hz2 : (mkS (encI x)).size = (encI x).length := rfl
      have hsum : ¬ 9223372036854775807 < Y.length + (encI x).length := by omega
      clear hc hts hfl htl hul hxk hY
      go_wp2_with (go_at_call 12; fail)
      (with_reducible refine C.out.mono ?_)
      rintro e w2 ⟨rfl, hb2⟩
      have hnx2 := hnx.trans (hb2.mono hz)
      clear hb2 C hnx f0
      go_wp2
      go_roundw
      case rel => exact ⟨k + 1, by omega, by simp, by rw [← HT.out], hnx2⟩
      case measure => simp [intOf]; omega
    · obtain rfl : n = k := by omega
      have hend : l.take n = l := by rw [← HN.out, List.take_length]
      rw [hend]
      have HE : Hid (encU n ++ l.flatMap encI = encL l) := Lib.hid (by unfold encL; rw [HN.out])
      have HB := Lib.hid hnx
      clear hend hnx
      go_wp2
      go_ret
      exact ⟨by rw [← HE.out]; rfl, HB.out⟩

end Go.Proofs.Ytecpdngaagmgfaa
