import Derived.Test.YtogkojedglpekaaProg
import Derived.WalkKit
import Derived.WalkLawsBesides
import Derived.Outline
import Derived.Lib.Walk
import Derived.Deep.QuietTactic
import Derived.BigQuiet
import Derived.RowKit3
import Derived.Deep.LoopGhost
import Derived.Great.Walk
import Derived.Great.BuildSlice
import Derived.Laws.Rows
import Derived.Laws.Tables
import Derived.Laws.CopyOwn
import Derived.Lib.Hide
import Derived.Handy
import Derived.Deep.Onto
import Derived.Laws.BitsAllLaws
import Derived.IntWalk
import Derived.Laws.IdiomStrings
import Derived.Laws.BytesString
import Derived.Test.YtogkojedglpekaaA1
import Derived.Test.YtogkojedglpekaaA2
import Derived.Test.YtogkojedglpekaaK1
import Derived.Test.YtogkojedglpekaaK2
import Derived.Test.YtogkojedglpekaaB2
import Derived.Test.YtogkojedglpekaaP1
import Derived.Test.YtogkojedglpekaaP2
import Derived.Test.YtogkojedglpekaaP3
import Derived.Test.YtogkojedglpekaaR1
namespace Go.Proofs.Ytogkojedglpekaa
open Go.RowKit
set_option maxHeartbeats 400000
set_option linter.unusedVariables false

theorem bel_trans {a b c : World} (h : Below a.heap.size a b) (k : Below b.heap.size b c) : Below a.heap.size a c := h.trans (k.mono h.size)
theorem byteI (c : Nat) : IntKind.u8.wrap (c : Int) = ((UInt8.ofNat c).toNat : Int) := by
  rw [IntKind.wrap_u8', ofNat_mod]; omega
theorem byteI2 (c k : Nat) : IntKind.u8.wrap ((c : Int) / (k : Int)) = ((UInt8.ofNat (c / k)).toNat : Int) := by
  rw [← byteI]; rfl
theorem addz (g i : Nat) : (⟨g, 0, none⟩ : Addr).add i = ⟨g, i, none⟩ := by
  unfold Addr.add
  split <;> simp_all
set_option maxHeartbeats 2000000 in
theorem c23 (l : List UInt8) (w : World) (hl : l.length ≤ 9000000000000000000) : Calls Try.prog 23 #[.string (mkS l)] w fun e w' => e = .returned (.string (mkS (four (crc l)))) ∧ Below w.heap.size w w' := by
  have C := Lib.hid (c11 l w hl)
  obtain ⟨c, hc⟩ : ∃ c, crc l = c := ⟨_, rfl⟩
  rw [hc] at C ⊢
  have e0 := byteI c
  have e1 := byteI2 c 256
  have e2 := byteI2 c 65536
  have e3 := byteI2 c 16777216
  obtain ⟨b0, h0⟩ : ∃ b, UInt8.ofNat c = b := ⟨_, rfl⟩
  obtain ⟨b1, h1⟩ : ∃ b, UInt8.ofNat (c / 256) = b := ⟨_, rfl⟩
  obtain ⟨b2, h2⟩ : ∃ b, UInt8.ofNat (c / 65536) = b := ⟨_, rfl⟩
  obtain ⟨b3, h3⟩ : ∃ b, UInt8.ofNat (c / 16777216) = b := ⟨_, rfl⟩
  have hf : four c = [b0, b1, b2, b3] := by unfold four; rw [h0, h1, h2, h3]
  rw [hf]
  rw [h0] at e0; rw [h1] at e1; rw [h2] at e2; rw [h3] at e3
  simp only [Int.cast_ofNat_Int] at e1 e2 e3
  clear hf h0 h1 h2 h3 hc
  have CV := Lib.hid (fun W : World => run_convert_bytes_back (P := Try.prog) (W.alloc (.cells #[.int .u8 (b0.toNat : Int), .int .u8 (b1.toNat : Int), .int .u8 (b2.toNat : Int), .int .u8 (b3.toNat : Int)] 5)) 35 9 5 ⟨W.heap.size, 0, none⟩ 4 [b0, b1, b2, b3] Try.underlying35 Try.underlying5 Try.underlying9 (fun j hj => by
    rw [addz, World.cell?_alloc_at _ _ _ _ rfl]
    match j, hj with
    | 0, _ => rfl
    | 1, _ => rfl
    | 2, _ => rfl
    | 3, _ => rfl))
  go_enter Try.func23, Try.ntmps23
  go_wp2_with (go_at_call 11; fail)
  (with_reducible refine C.out.mono ?_)
  rintro e w1 ⟨rfl, hb1⟩
  have hcv := CV.out w1
  simp only [List.length_cons, List.length_nil] at hcv
  have HB := Lib.hid (hb1.alloc hb1.size (.cells #[.int .u8 (b0.toNat : Int), .int .u8 (b1.toNat : Int), .int .u8 (b2.toNat : Int), .int .u8 (b3.toNat : Int)] 5))
  clear C hb1
  go_wp2
  go_ret
  exact ⟨rfl, HB.out⟩

end Go.Proofs.Ytogkojedglpekaa
