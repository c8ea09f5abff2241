import Derived.Test.YtogkojedglpekaaProg
import Derived.WalkKit
import Derived.WalkLawsBesides
import Derived.Outline
import Derived.Lib.Walk
import Derived.Deep.QuietTactic
import Derived.BigQuiet
import Derived.RowKit3
import Derived.Deep.LoopGhost
import Derived.Great.Walk
import Derived.Great.BuildSlice
import Derived.Laws.Rows
import Derived.Laws.Tables
import Derived.Laws.CopyOwn
import Derived.Lib.Hide
import Derived.Handy
import Derived.Deep.Onto
import Derived.Laws.BitsAllLaws
import Derived.IntWalk
import Derived.Deep.DeepAppendWide
import Derived.Laws.IdiomStrings
import Derived.Laws.BytesString
import Derived.Test.YtogkojedglpekaaA1
import Derived.Test.YtogkojedglpekaaA2
import Derived.Test.YtogkojedglpekaaA3
import Derived.Test.YtogkojedglpekaaK1
import Derived.Test.YtogkojedglpekaaK2
import Derived.Test.YtogkojedglpekaaB1
import Derived.Test.YtogkojedglpekaaB2
namespace Go.Proofs.Ytogkojedglpekaa
open Go.RowKit
set_option maxHeartbeats 400000
set_option linter.unusedVariables false

def fourN : Nat → Nat → List UInt8
  | 0, _ => []
  | k + 1, m => UInt8.ofNat (m % 256) :: fourN k (m / 256)
theorem ofNat_eq {a b : Nat} (h : a % 256 = b % 256) : UInt8.ofNat a = UInt8.ofNat b := UInt8.toNat_inj.1 (by rw [ofNat_mod, ofNat_mod, h])
theorem fourN_four (c : Nat) : fourN 4 c = four c := by
  unfold four fourN fourN fourN fourN fourN
  simp only [List.cons.injEq, and_true]
  exact ⟨ofNat_eq (by omega), ofNat_eq (by omega), ofNat_eq (by omega), ofNat_eq (by omega)⟩
set_option maxHeartbeats 2000000 in
theorem g25 (c : Nat) (w : World) (hc : c < 4294967296) : Calls Try.prog 25 #[.int .u32 (c : Int)] w fun e w' => e = .returned (.string (mkS (four c))) ∧ Below w.heap.size w w' := by
  obtain ⟨i0, hi, hz0', hz1, hz2⟩ := info_parts info5
  obtain ⟨r, hr⟩ : ∃ r, fourN 4 c = r := ⟨_, rfl⟩
  rw [← fourN_four, hr]
  have HR := Lib.hid hr
  clear hr
  go_enter Try.func25, Try.ntmps25
  go_wp2
  go_loopw [0, 3, 4] (fun nn b ii W => ∃ (k m : Nat) (ys : List UInt8), nn = .int .u32 (m : Int) ∧ ii = .int .i64 (k : Int) ∧ k ≤ 4 ∧ m < 4294967296 ∧ W.ownsRow w.heap.size 5 1 b ys.length (bv ys) ∧ Below w.heap.size w W ∧ Hid (ys ++ fourN (4 - k) m = r) ∧ ys.length ≤ k) (fun _ _ ii _ => (4 - (intOf ii).toNat))
  case atStart => exact ⟨0, c, [], rfl, rfl, by omega, hc, World.ownsRow_nil _ _ _ _, Below.refl _ _, HR, by simp⟩
  case round =>
    obtain ⟨k, m, ys, rfl, rfl, hk, hm, ho, hnx, he, hl⟩ := hrel
    by_cases hlt : k < 4
    · have kk : IntKind.i64.wrap ((k : Int) + 1) = (k : Int) + 1 := IntWalk.i64_in _ (by omega)
      have e1 : (m : Int).tmod 256 = (m : Int) % 256 := Int.tmod_eq_emod_of_nonneg (by omega)
      have e2 : IntKind.u8.wrap ((m : Int) % 256) = ((UInt8.ofNat (m % 256)).toNat : Int) := by rw [ofNat_lt (by omega)]; exact IntWalk.u8_in _ (by omega)
      have e3 : (m : Int).tdiv 256 = (m : Int) / 256 := Int.tdiv_eq_ediv_of_nonneg (by omega)
      obtain ⟨b, hb⟩ : ∃ b, UInt8.ofNat (m % 256) = b := ⟨_, rfl⟩
      rw [hb] at e2
      have hs : Hid ((ys ++ [b]) ++ fourN (4 - (k + 1)) (m / 256) = r) := Lib.hid (by
        have h := he.out
        rw [show 4 - k = 4 - (k + 1) + 1 by omega] at h
        unfold fourN at h
        rw [hb] at h
        rw [List.append_assoc]
        exact h)
      clear he hb
      go_wp2_with (at_builtin; refine wpList_append_own_wide _ rfl _ _ 35 rfl w.heap.size 5 i0 (.int .u8 0) 1 1 Try.underlying35 hi hz0' hz1 hz2 rfl (by decide) _ _ _ rfl (ho.alloc _) ⟨wr.heap.size, 0, none⟩ 1 1 [.int .u8 (b.toNat : Int)] rfl rfl ?c1 ?c2 ?c3 ?c4 ?c5 ?_)
      case c1 =>
        intro j u hj
        match j, hj with
        | 0, hj => simp at hj; subst hj; simp [Addr.add]
      case c2 => intro u hu; simp at hu; subst hu; rfl
      case c3 => unfold maxLen; simp; omega
      case c4 => simp; omega
      case c5 => have := hnx.size; simp; omega
      intro v' w3 hown' hgrow _
      have hnx3 := below_app1 hnx (Nat.le_refl _) ho hgrow
      clear hgrow ho hnx
      go_wp2
      go_roundw
      case rel => exact ⟨k + 1, m / 256, ys ++ [b], by simp, by simp, by omega, by omega, by rw [bv_append, List.length_append]; exact hown', hnx3, hs, by simp; omega⟩
      case measure => simp [intOf]; omega
    · obtain rfl : k = 4 := by omega
      have h := he.out
      rw [show 4 - 4 = 0 by omega] at h
      unfold fourN at h
      rw [List.append_nil] at h
      subst h
      have hconv := run_string_own ho
      have HB := Lib.hid hnx
      clear he ho hnx
      go_wp2
      go_ret
      exact ⟨rfl, HB.out⟩
set_option maxHeartbeats 2000000 in
theorem g24 (n : Nat) (w : World) (hn : n ≤ 9000000000000000000) : Calls Try.prog 24 #[.int .i64 (n : Int)] w fun e w' => e = .returned (.string (mkS (encU n))) ∧ Below w.heap.size w w' := by
  obtain ⟨i0, hi, hz0', hz1, hz2⟩ := info_parts info5
  obtain ⟨r, hr⟩ : ∃ r, encU n = r := ⟨_, rfl⟩
  have HR : Hid ([] ++ encF 9 n = r) := Lib.hid hr
  rw [hr]
  clear hr
  go_enter Try.func24, Try.ntmps24
  go_wp2
  go_loopw [0, 3] (fun nn b W => ∃ (f m : Nat) (ys : List UInt8), nn = .int .i64 (m : Int) ∧ m ≤ 9000000000000000000 ∧ Hid (m < 128 ^ (f + 1)) ∧ W.ownsRow w.heap.size 5 1 b ys.length (bv ys) ∧ Below w.heap.size w W ∧ Hid (ys ++ encF f m = r) ∧ ys.length + f ≤ 9) (fun nn _ _ => (intOf nn).toNat)
  case atStart => exact ⟨9, n, [], rfl, hn, Lib.hid (by rw [show (128 : Nat) ^ (9 + 1) = 1180591620717411303424 by decide]; omega), World.ownsRow_nil _ _ _ _, Below.refl _ _, HR, by simp⟩
  case round =>
    obtain ⟨f, m, ys, rfl, hm, hf, ho, hnx, he, hl⟩ := hrel
    by_cases hbig : 128 ≤ m
    · have h1 : (128 : Int) ≤ (m : Int) := by omega
      obtain ⟨f, rfl⟩ : ∃ f', f = f' + 1 := by
        cases f with
        | zero => exact absurd hf.out (by simp; omega)
        | succ f' => exact ⟨f', rfl⟩
      have e1 : (m : Int).tmod 128 = (m : Int) % 128 := Int.tmod_eq_emod_of_nonneg (by omega)
      have e3 : (m : Int).tdiv 128 = (m : Int) / 128 := Int.tdiv_eq_ediv_of_nonneg (by omega)
      have e4 : IntKind.i64.wrap ((m : Int) % 128 + 128) = (m : Int) % 128 + 128 := IntWalk.i64_in _ (by omega)
      have e2 : IntKind.u8.wrap ((m : Int) % 128 + 128) = ((UInt8.ofNat (m % 128 + 128)).toNat : Int) := by rw [ofNat_lt (by omega)]; exact IntWalk.u8_in _ (by omega)
      have hs : Hid (ys ++ [UInt8.ofNat (m % 128 + 128)] ++ encF f (m / 128) = r) := Lib.hid (by rw [← he.out, encF_more hbig]; simp)
      obtain ⟨b, hb⟩ : ∃ b, UInt8.ofNat (m % 128 + 128) = b := ⟨_, rfl⟩
      rw [hb] at e2 hs
      have hf2 : Hid (m / 128 < 128 ^ (f + 1)) := Lib.hid (by
        have h2 := hf.out
        rw [Nat.pow_succ] at h2
        exact Nat.div_lt_of_lt_mul (by rw [Nat.mul_comm]; exact h2))
      clear hf he hb
      go_wp2_with (at_builtin; refine wpList_append_own_wide _ rfl _ _ 35 rfl w.heap.size 5 i0 (.int .u8 0) 1 1 Try.underlying35 hi hz0' hz1 hz2 rfl (by decide) _ _ _ rfl (ho.alloc _) ⟨wr.heap.size, 0, none⟩ 1 1 [.int .u8 (b.toNat : Int)] rfl rfl ?c1 ?c2 ?c3 ?c4 ?c5 ?_)
      case c1 =>
        intro j u hj
        match j, hj with
        | 0, hj => simp at hj; subst hj; simp [Addr.add]
      case c2 => intro u hu; simp at hu; subst hu; rfl
      case c3 => unfold maxLen; simp; omega
      case c4 => simp; omega
      case c5 => have := hnx.size; simp; omega
      intro v' w3 hown' hgrow _
      have hnx3 := below_app1 hnx (Nat.le_refl _) ho hgrow
      clear hgrow ho hnx
      go_wp2
      go_roundw
      case rel => exact ⟨f, m / 128, ys ++ [b], by simp, by omega, hf2, by rw [bv_append, List.length_append]; exact hown', hnx3, hs, by simp; omega⟩
      case measure => simp [intOf]; omega
    · have h2 := decide_eq_false (p := (128 : Int) ≤ (m : Int)) (by omega)
      have h3 := decide_eq_false (p := 128 ≤ m) (by omega)
      have e2 : IntKind.u8.wrap (m : Int) = ((UInt8.ofNat m).toNat : Int) := by rw [ofNat_lt (by omega)]; exact IntWalk.u8_in _ (by omega)
      have hs : Hid (ys ++ [UInt8.ofNat m] = r) := Lib.hid (by rw [← he.out, encF_one (by omega)])
      obtain ⟨b, hb⟩ : ∃ b, UInt8.ofNat m = b := ⟨_, rfl⟩
      rw [hb] at e2 hs
      clear he hf hb
      go_wp2_with (at_builtin; refine wpList_append_own_wide _ rfl _ _ 35 rfl w.heap.size 5 i0 (.int .u8 0) 1 1 Try.underlying35 hi hz0' hz1 hz2 rfl (by decide) _ _ _ rfl (ho.alloc _) ⟨wr.heap.size, 0, none⟩ 1 1 [.int .u8 (b.toNat : Int)] rfl rfl ?d1 ?d2 ?d3 ?d4 ?d5 ?_)
      case d1 =>
        intro j u hj
        match j, hj with
        | 0, hj => simp at hj; subst hj; simp [Addr.add]
      case d2 => first | rfl | (intro u hu; simp at hu; subst hu; rfl)
      case d3 => unfold maxLen; first | omega | (simp; omega)
      case d4 => first | omega | (simp; omega)
      case d5 => have := hnx.size; first | omega | (simp; omega)
      intro v' w3 hown' hgrow _
      have hnx3 := below_app1 hnx (Nat.le_refl _) ho hgrow
      have ho3 : w3.ownsRow w.heap.size 5 1 v' (ys ++ [b]).length (bv (ys ++ [b])) := by
        rw [bv_append, List.length_append]
        exact hown'
      have hconv := run_string_own ho3
      rw [hs.out] at hconv
      have HB := Lib.hid hnx3
      clear hgrow ho hnx hown' hnx3 ho3
      go_wp2
      go_ret
      exact ⟨rfl, HB.out⟩

end Go.Proofs.Ytogkojedglpekaa
