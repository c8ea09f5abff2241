import Derived.Test.YtmekcgbljpeglaaDoorProg
import Derived.WalkKit
import Derived.WalkLawsBesides
import Derived.Outline
import Derived.Lib.Walk
import Derived.Deep.QuietTactic
import Derived.BigQuiet
import Derived.RowKit3
import Derived.Deep.LoopGhost
import Derived.Laws.Rows
import Derived.Laws.Tables
import Derived.Laws.CopyOwn
import Derived.Lib.Hide
import Derived.Handy
import Derived.Deep.Onto
import Derived.IntWalk
import Derived.Laws.BitsAllLaws
import Derived.Test.YtmekcgbljpeglaaDoorA1
import Derived.Test.YtmekcgbljpeglaaDoorA2
import Derived.Test.YtmekcgbljpeglaaDoorQT
import Derived.Test.YtmekcgbljpeglaaDoorU1
import Derived.Test.YtmekcgbljpeglaaDoorU2
import Derived.Test.YtmekcgbljpeglaaDoorU3
import Derived.Test.YtmekcgbljpeglaaDoorT1
import Derived.Test.YtmekcgbljpeglaaDoorB4
import Derived.Test.YtmekcgbljpeglaaDoorK51
namespace Go.Proofs.YtmekcgbljpeglaaDoor
open Go.RowKit
set_option maxHeartbeats 400000
set_option linter.unusedVariables false

theorem k32_none (S : ByteArray) (w : World) (hS : S.size = 0) : Calls Tryd.prog 32 #[.string S] w fun e w' => e = .returned (.tuple #[.agg #[.int .i64 0, .int .i64 0, .int .i64 0, .int .i64 0], .int .i64 4]) ∧ Below w.heap.size w w' := by
  go_enter Tryd.func32, Tryd.ntmps32
  go_wp2
  exact bodyPost_ret (v := .tuple #[.agg #[.int .i64 (0), .int .i64 (0), .int .i64 (0), .int .i64 (0)], .int .i64 4]) (by simp [results, Tryd.results32, go_sem, *]) rfl ⟨rfl, by go_grown⟩

theorem k32_no (S : ByteArray) (c : UInt8) (w : World) (h0 : 0 < S.size) (z1 : ((S.size : Int) == 0) = false) (z2 : (S.size == 0) = false) (hx : S[0]'h0 = c) (hc : ((c.toNat : Int) == 35) = false) : Calls Tryd.prog 32 #[.string S] w fun e w' => e = .returned (.tuple #[.agg #[.int .i64 0, .int .i64 0, .int .i64 0, .int .i64 0], .int .i64 4]) ∧ Below w.heap.size w w' := by
  have h0' : (0 : Int) < (S.size : Int) := by omega
  go_enter Tryd.func32, Tryd.ntmps32
  go_wp2
  exact bodyPost_ret (v := .tuple #[.agg #[.int .i64 (0), .int .i64 (0), .int .i64 (0), .int .i64 (0)], .int .i64 4]) (by simp [results, Tryd.results32, go_sem, *]) rfl ⟨rfl, by go_grown⟩

theorem k32_bad (S R T : ByteArray) (c : UInt8) (w : World) (h0 : 0 < S.size) (z1 : ((S.size : Int) == 0) = false) (z2 : (S.size == 0) = false) (hx : S[0]'h0 = c) (hc : ((c.toNat : Int) == 35) = true) (hR : S.extract 1 S.size = R) (hE : Err2 w)
    (c1 : ∀ w, Calls Tryd.prog 51 #[.string R] w fun e w' => e = .returned (.string T) ∧ ∃ k, w' = w.drewN k)
    (c2 : ∀ w, Err2 w → Calls Tryd.prog 50 #[.string T, .int .i64 16, .int .i64 32] w fun e w' => ∃ N, e = .returned (.tuple #[.int .u64 0, .iface 65 (.pointer (some ⟨N, 0, none⟩))]) ∧ Below w.heap.size w w') :
    Calls Tryd.prog 32 #[.string S] w fun e w' => e = .returned (.tuple #[.agg #[.int .i64 0, .int .i64 0, .int .i64 0, .int .i64 0], .int .i64 4]) ∧ Below w.heap.size w w' := by
  have h0' : (0 : Int) < (S.size : Int) := by omega
  have h1' : (1 : Int) ≤ (S.size : Int) := by omega
  have h1n : 1 ≤ S.size := by omega
  have C1 := Lib.hid c1
  have C2 := Lib.hid c2
  have HE := Lib.hid hE
  clear c1 c2 hE
  go_enter Tryd.func32, Tryd.ntmps32
  go_wp2_with (go_at_call 51; fail)
  (with_reducible refine (C1.out _).mono ?_)
  rintro e1 w1 ⟨rfl, nq, rfl⟩
  go_wp2_with (go_at_call 50; fail)
  have hlt := HE.out.lt
  (with_reducible refine (C2.out _ (Err2.below HE.out (bel_dr (bel_al (Below.refl _ _) _) _) hlt)).mono ?_)
  rintro e2 w2 ⟨N, rfl, hg⟩
  have hs := hg.size
  simp at hs
  have r0 : rec4 w2 w.heap.size 0 0 0 0 := rec4.below (rec4.drewN (rec4.new w 0 0 0 0 23) nq) hg (by simp)
  have G : Below w.heap.size w w2 := bel_trans (bel_dr (bel_al (Below.refl _ _) _) _) hg
  have hz : w.heap.size < w2.heap.size := by omega
  obtain ⟨⟨c00, c01, c02, c03⟩, f00, f01, f02, f03⟩ := r0.cells
  clear hg r0
  go_wp2
  exact bodyPost_ret (v := .tuple #[.agg #[.int .i64 (0), .int .i64 (0), .int .i64 (0), .int .i64 (0)], .int .i64 4]) (by simp [results, Tryd.results32, go_sem, *]) rfl ⟨rfl, by go_grown <;> exact G⟩

theorem k32_ok (S R T : ByteArray) (c : UInt8) (n : Nat) (w : World) (h0 : 0 < S.size) (z1 : ((S.size : Int) == 0) = false) (z2 : (S.size == 0) = false) (hx : S[0]'h0 = c) (hc : ((c.toNat : Int) == 35) = true) (hR : S.extract 1 S.size = R) (hn : n < 4294967296)
    (c1 : ∀ w, Calls Tryd.prog 51 #[.string R] w fun e w' => e = .returned (.string T) ∧ ∃ k, w' = w.drewN k)
    (c2 : ∀ w, Calls Tryd.prog 50 #[.string T, .int .i64 16, .int .i64 32] w fun e w' => e = .returned (.tuple #[.int .u64 (n : Int), .nilIface]) ∧ Below w.heap.size w w') :
    Calls Tryd.prog 32 #[.string S] w fun e w' => e = .returned (.tuple #[(pxOf n).val, .int .i64 0]) ∧ Below w.heap.size w w' := by
  have h0' : (0 : Int) < (S.size : Int) := by omega
  have h1' : (1 : Int) ≤ (S.size : Int) := by omega
  have h1n : 1 ≤ S.size := by omega
  have C1 := Lib.hid c1
  have C2 := Lib.hid c2
  have D0 := Lib.hid (fun p w h => k52_24 n p w h hn)
  have D1 := Lib.hid (fun p w h => k52_16 n p w h hn)
  have D2 := Lib.hid (fun p w h => k52_8 n p w h hn)
  have D3 := Lib.hid (fun p w h => k52_0 n p w h hn)
  unfold Px.val pxOf
  dsimp only
  generalize fr8 ((n / 16777216 % 256 : Nat) : Int) = v0 at *
  generalize fr8 ((n / 65536 % 256 : Nat) : Int) = v1 at *
  generalize fr8 ((n / 256 % 256 : Nat) : Int) = v2 at *
  generalize fr8 ((n % 256 : Nat) : Int) = v3 at *
  obtain ⟨m, hm⟩ : ∃ m : Int, m = (n : Int) := ⟨_, rfl⟩
  rw [← hm] at C2 D0 D1 D2 D3
  clear c1 c2 hn hm
  go_enter Tryd.func32, Tryd.ntmps32
  go_wp2_with (go_at_call 51; fail)
  (with_reducible refine (C1.out _).mono ?_)
  rintro e1 w1 ⟨rfl, nq, rfl⟩
  go_wp2_with (go_at_call 50; fail)
  (with_reducible refine (C2.out _).mono ?_)
  rintro e2 w2 ⟨rfl, hg⟩
  have hs := hg.size
  simp at hs
  have r0 : rec4 w2 w.heap.size 0 0 0 0 := rec4.below (rec4.drewN (rec4.new w 0 0 0 0 23) nq) hg (by simp)
  have G : Below w.heap.size w w2 := bel_trans (bel_dr (bel_al (Below.refl _ _) _) _) hg
  have hz : w.heap.size < w2.heap.size := by omega
  obtain ⟨⟨c00, c01, c02, c03⟩, f00, f01, f02, f03⟩ := r0.cells
  clear hg
  go_wp2_with (go_at_call 52; fail)
  have p4 : (w2.alloc (.cells #[.int .u64 m] 45)).cell? ⟨w2.heap.size, 0, none⟩ = some (.int .u64 m) := by simp [go_sem]
  have G3 : Below w.heap.size w (w2.alloc (.cells #[.int .u64 m] 45)) := bel_al G _
  have hz3 : w.heap.size < (w2.alloc (.cells #[.int .u64 m] 45)).heap.size := by simp; omega
  have r3 : rec4 (w2.alloc (.cells #[.int .u64 m] 45)) w.heap.size 0 0 0 0 := rec4.alloc r0 _ hz
  clear r0 G hz c00 c01 c02 c03 f00 f01 f02 f03
  generalize (w2.alloc (.cells #[.int .u64 m] 45)) = W3 at *
  obtain ⟨⟨c00, c01, c02, c03⟩, f00, f01, f02, f03⟩ := r3.cells
  clear r3
  go_wp2_with (first | (go_at_call 52; (with_reducible refine (D0.out _ _ p4).mono ?_); rintro e w1 ⟨rfl, rfl⟩) | (go_at_call 52; (with_reducible refine (D1.out _ _ p4).mono ?_); rintro e w1 ⟨rfl, rfl⟩) | (go_at_call 52; (with_reducible refine (D2.out _ _ p4).mono ?_); rintro e w1 ⟨rfl, rfl⟩) | (go_at_call 52; (with_reducible refine (D3.out _ _ p4).mono ?_); rintro e w1 ⟨rfl, rfl⟩))
  exact bodyPost_ret (v := .tuple #[.agg #[.int .i64 (v0), .int .i64 (v1), .int .i64 (v2), .int .i64 (v3)], .int .i64 0]) (by simp [results, Tryd.results32, go_sem, *]) rfl ⟨rfl, by go_grown <;> exact G3⟩

end Go.Proofs.YtmekcgbljpeglaaDoor
