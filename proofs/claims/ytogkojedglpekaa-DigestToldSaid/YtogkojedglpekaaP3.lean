import Derived.Test.YtogkojedglpekaaProg
import Derived.WalkKit
import Derived.WalkLawsBesides
import Derived.Outline
import Derived.Lib.Walk
import Derived.Deep.QuietTactic
import Derived.BigQuiet
import Derived.RowKit3
import Derived.Deep.LoopGhost
import Derived.Great.Walk
import Derived.Great.BuildSlice
import Derived.Laws.Rows
import Derived.Laws.Tables
import Derived.Laws.CopyOwn
import Derived.Lib.Hide
import Derived.Handy
import Derived.Deep.Onto
import Derived.Laws.BitsAllLaws
import Derived.IntWalk
import Derived.Deep.WholeRow
import Derived.Laws.ResultCell
import Derived.Test.YtogkojedglpekaaK1
import Derived.Test.YtogkojedglpekaaK2
import Derived.Test.YtogkojedglpekaaB2
import Derived.Test.YtogkojedglpekaaP1
import Derived.Test.YtogkojedglpekaaP2
import Derived.Test.YtogkojedglpekaaR1
namespace Go.Proofs.Ytogkojedglpekaa
open Go.RowKit
set_option maxHeartbeats 400000
set_option linter.unusedVariables false

theorem below_refl {w : World} : Below w.heap.size w w := Below.refl _ _
set_option maxHeartbeats 2000000 in
set_option maxRecDepth 100000 in
theorem c11 (l : List UInt8) (w : World) (hl : l.length ≤ 9000000000000000000) : Calls Try.prog 11 #[.string (mkS l)] w fun e w' => e = .returned (.int .u32 (crc l : Nat)) ∧ Below w.heap.size w w' := by
  obtain ⟨r, hr⟩ : ∃ r, crc l = r := ⟨_, rfl⟩
  have HR : Hid (4294967295 - reg 4294967295 l = r) := Lib.hid hr
  rw [hr]
  clear hr
  obtain ⟨hv38, hi38⟩ := zero_of_info info38
  rw [← tabC_zero] at hv38
  have hz : (mkS l).size = l.length := rfl
  have C := Lib.hid (c21 w)
  have HI := Lib.hid hi38
  clear hi38
  go_enter Try.func11, Try.ntmps11
  go_wp2_with (go_at_call 21; fail)
  (with_reducible refine C.out.mono ?_)
  rintro e w1 ⟨rfl, hb1⟩
  clear C
  have hsc := run_storeCells_new (P := Try.prog) w1 38 (tabC 0) (tabC 256) (by rw [tabC_size]; exact HI.out) (by rw [tabC_size, tabC_size]) (tabC_one _)
  have HS := Lib.hid hsc
  clear hsc
  go_wp2
  rw [HS.out]
  simp only [Result.andThen]
  rw [Oper.upon_skip]
  have HB : Below w.heap.size w (w1.alloc (.cells (tabC 256) 38)) := hb1.alloc hb1.size _
  have HT : ∀ j, j < 256 → (w1.alloc (.cells (tabC 256) 38)).cell? ⟨w1.heap.size, j, none⟩ = some (.int .u32 (sh8 j : Nat)) := fun j hj => by
    rw [cell_of_row _ _ j _ _ (0, 0) (heap_alloc_last _ _)]
    exact tabC_get 256 j hj hj
  generalize w1.heap.size = g at *
  generalize w1.alloc (.cells (tabC 256) 38) = W at *
  have HTT := Lib.hid HT
  have HBB := Lib.hid HB
  clear HS hb1 HT HB
  go_wp2
  go_loop [4, 9] (fun cc ii => ∃ (k m : Nat), cc = .int .u32 (m : Int) ∧ ii = .int .i64 (k : Int) ∧ k ≤ l.length ∧ m < 4294967296 ∧ Hid (reg 4294967295 (l.take k) = m)) (fun _ ii => (l.length - (intOf ii).toNat))
  case atStart => exact ⟨0, 4294967295, rfl, rfl, by omega, by omega, Lib.hid rfl⟩
  case round =>
    obtain ⟨k, m, rfl, rfl, hk, hm, hs⟩ := hrel
    by_cases hlt : k < l.length
    · have ht := reg_take 4294967295 l k hlt
      have hx := getS l k hlt
      obtain ⟨x, hxx⟩ : ∃ x, l[k] = x := ⟨_, rfl⟩
      rw [hxx] at ht hx
      rw [hs.out, step8] at ht
      have hxl := x.toNat_lt
      have e1 := u8_xor_nat (m % 256) x.toNat (by omega) hxl
      have hj := xor8 (a := m % 256) (b := x.toNat) (by omega) hxl
      rw [show ((m % 256 : Nat) : Int) = (m : Int) % 256 by omega] at e1
      have e0 : IntKind.u8.wrap (m : Int) = (m : Int) % 256 := IntKind.wrap_u8' _
      have hc := HTT.out _ hj
      have hjI : (((m % 256 ^^^ x.toNat : Nat)) : Int) < 256 := by omega
      have hsl := shN_lt 8 (m % 256 ^^^ x.toNat) (by omega)
      generalize m % 256 ^^^ x.toNat = j at *
      have e2 := u32_xor_nat (m / 256) (sh8 j) (by omega) hsl
      have hn := xor32 (a := m / 256) (b := sh8 j) (by omega) hsl
      rw [show ((m / 256 : Nat) : Int) = (m : Int) / 256 by omega] at e2
      obtain ⟨n, hnn⟩ : ∃ n, m / 256 ^^^ sh8 j = n := ⟨_, rfl⟩
      rw [hnn] at ht e2 hn
      generalize sh8 j = y at *
      have HT2 := Lib.hid ht
      have kk : IntKind.i64.wrap ((k : Int) + 1) = (k : Int) + 1 := IntWalk.i64_in _ (by omega)
      clear ht hxx hs hnn
      go_wp2
      go_roundw
      case rel => exact ⟨k + 1, n, by simp, by simp, by omega, hn, HT2⟩
      case measure => simp [intOf]; omega
    · obtain rfl : l.length = k := by omega
      have he := hs.out
      rw [List.take_length] at he
      have hr := HR.out
      rw [he] at hr
      have en := not32i m hm
      rw [hr] at en
      clear hr he
      go_wp2
      go_ret
      exact ⟨rfl, HBB.out⟩

end Go.Proofs.Ytogkojedglpekaa
