import Derived.Test.YtogkojedglpekaaProg
import Derived.WalkKit
import Derived.WalkLawsBesides
import Derived.Outline
import Derived.Lib.Walk
import Derived.Deep.QuietTactic
import Derived.BigQuiet
import Derived.RowKit3
import Derived.Deep.LoopGhost
import Derived.Laws.Rows
import Derived.Laws.Tables
import Derived.Laws.CopyOwn
import Derived.Lib.Hide
import Derived.Handy
import Derived.Deep.Onto
import Derived.Deep.DeepAppendWide
import Derived.Test.YtogkojedglpekaaA1
import Derived.Test.YtogkojedglpekaaA2
import Derived.Test.YtogkojedglpekaaA3
namespace Go.Proofs.Ytogkojedglpekaa
open Go.RowKit
set_option maxHeartbeats 400000
set_option linter.unusedVariables false

def bv (l : List UInt8) : List Value := l.map fun b => .int .u8 (b.toNat : Int)
theorem bv_append (a b : List UInt8) : bv (a ++ b) = bv a ++ bv b := List.map_append
theorem info5 : (Try.prog.info? 5).map (fun i => (i.zero, i.size, i.bytes)) = some (some (.int .u8 0), 1, 1) := by kernel_rfl
theorem below_app1 {base : Nat} {w wr w3 : World} {v : Value} {n : Nat} {t : TypeId} {size : Nat} {xs : List Value} {o : Obj} (hnx : Below base w wr) (hb : base ≤ w.heap.size) (ho : wr.ownsRow base t size v n xs) (hg : (wr.alloc o).grownBy w3 v.ownBlock) : Below base w w3 :=
  (hnx.alloc (Nat.le_trans hb hnx.size) o).grown hg (by have := hnx.size; simp; omega) (fun k e => (ho.lt k e).1)
set_option maxHeartbeats 2000000 in
theorem c35 (v : Value) (xs : List UInt8) (n : Nat) (base : Nat) (w : World) (hown : w.ownsRow base 5 1 v xs.length (bv xs)) (hb : base ≤ w.heap.size) (hn : n < 18446744073709551616) (hx : xs.length ≤ 200000000000000) :
    Calls Try.prog 35 #[v, .int .u64 (n : Int)] w fun e w' => ∃ v', e = .returned v' ∧ Below base w w' ∧ w'.ownsRow base 5 1 v' (xs ++ encU n).length (bv (xs ++ encU n)) := by
  obtain ⟨i0, hi, hz0', hz1, hz2⟩ := info_parts info5
  go_enter Try.func35, Try.ntmps35
  go_wp2
  go_loopw [0, 1] (fun b nn W => ∃ (f m : Nat) (ys : List UInt8), nn = .int .u64 (m : Int) ∧ m < 18446744073709551616 ∧ Hid (m < 128 ^ (f + 1)) ∧ W.ownsRow base 5 1 b ys.length (bv ys) ∧ Below base w W ∧ Hid (ys ++ encF f m = xs ++ encU n) ∧ ys.length + f ≤ xs.length + 9) (fun _ nn _ => (intOf nn).toNat)
  case atStart => exact ⟨9, n, xs, rfl, hn, Lib.hid (by rw [show (128 : Nat) ^ (9 + 1) = 1180591620717411303424 by decide]; omega), hown, Below.refl _ _, Lib.hid rfl, by omega⟩
  case round =>
    clear hown
    obtain ⟨f, m, ys, rfl, hm, hf, ho, hnx, he, hl⟩ := hrel
    by_cases hbig : 128 ≤ m
    · have h1 : (127 : Int) < (m : Int) := by omega
      obtain ⟨f, rfl⟩ : ∃ f', f = f' + 1 := by
        cases f with
        | zero => exact absurd hf.out (by simp; omega)
        | succ f' => exact ⟨f', rfl⟩
      have HB := Lib.hid (or8_of m)
      have hb8 := HB.out
      have hs : Hid (ys ++ [UInt8.ofNat (m % 128 + 128)] ++ encF f (m / 128) = xs ++ encU n) := Lib.hid (by rw [← he.out, encF_more hbig]; simp)
      have hf2 : Hid (m / 128 < 128 ^ (f + 1)) := Lib.hid (by
        have h2 := hf.out
        rw [Nat.pow_succ] at h2
        exact Nat.div_lt_of_lt_mul (by rw [Nat.mul_comm]; exact h2))
      clear hf he
      go_wp2_with (at_builtin; refine wpList_append_own_wide _ rfl _ _ 35 rfl base 5 i0 (.int .u8 0) 1 1 Try.underlying35 hi hz0' hz1 hz2 rfl (by decide) _ _ _ rfl (ho.alloc _) ⟨wr.heap.size, 0, none⟩ 1 1 [.int .u8 ((UInt8.ofNat (m % 128 + 128)).toNat : Int)] rfl rfl ?c1 ?c2 ?c3 ?c4 ?c5 ?_)
      case c1 =>
        intro j u hj
        match j, hj with
        | 0, hj => simp at hj; subst hj; simp [Addr.add]
      case c2 => intro u hu; simp at hu; subst hu; rfl
      case c3 => unfold maxLen; simp; omega
      case c4 => simp; omega
      case c5 => have := hnx.size; simp; omega
      intro v' w3 hown' hgrow _
      have hnx3 := below_app1 hnx hb ho hgrow
      clear hgrow ho hnx hb8
      go_wp2
      go_roundw
      case rel => exact ⟨f, m / 128, ys ++ [UInt8.ofNat (m % 128 + 128)], by simp, by omega, hf2, by rw [bv_append, List.length_append]; exact hown', hnx3, hs, by simp; omega⟩
      case measure => simp [intOf]; omega
    · have h1 : ¬ (127 : Int) < (m : Int) := by omega
      have h2 := decide_eq_false (p := (127 : Int) < (m : Int)) h1
      have h3 := decide_eq_false (p := 127 < m) (by omega)
      have HB2 : Hid (((UInt8.ofNat m).toNat : Int) = (m : Int)) := Lib.hid (by rw [ofNat_lt (by omega)])
      have hs : Hid (ys ++ [UInt8.ofNat m] = xs ++ encU n) := Lib.hid (by rw [← he.out, encF_one (by omega)])
      clear he hf
      go_wp2_with (at_builtin; refine wpList_append_own_wide _ rfl _ _ 35 rfl base 5 i0 (.int .u8 0) 1 1 Try.underlying35 hi hz0' hz1 hz2 rfl (by decide) _ _ _ rfl (ho.alloc _) ⟨wr.heap.size, 0, none⟩ 1 1 [.int .u8 (m : Int)] rfl rfl ?d1 ?d2 ?d3 ?d4 ?d5 ?_)
      case d2 => first | rfl | (intro u hu; simp at hu; subst hu; rfl)
      case d3 => unfold maxLen; omega
      case d4 => omega
      case d5 => have := hnx.size; first | omega | (simp; omega)
      intro v' w3 hown' hgrow _
      have hnx3 := below_app1 hnx hb ho hgrow
      have ho3 : w3.ownsRow base 5 1 v' (ys ++ [UInt8.ofNat m]).length (bv (ys ++ [UInt8.ofNat m])) := by
        rw [bv_append, List.length_append, show bv [UInt8.ofNat m] = [.int .u8 (m : Int)] by unfold bv; simp only [List.map_cons, List.map_nil]; rw [HB2.out]]
        exact hown'
      rw [hs.out] at ho3
      have HF := Lib.hid (And.intro hnx3 ho3)
      clear hgrow ho hnx hown' hnx3 ho3
      go_wp2
      go_ret
      exact ⟨_, rfl, HF.out.1, HF.out.2⟩

end Go.Proofs.Ytogkojedglpekaa
