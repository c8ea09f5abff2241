import Derived.Test.YtmekcgbljpeglaaDoorProg
import Derived.WalkKit
import Derived.WalkLawsBesides
import Derived.Outline
import Derived.Lib.Walk
import Derived.Deep.QuietTactic
import Derived.BigQuiet
import Derived.RowKit3
import Derived.Deep.LoopGhost
import Derived.Laws.Rows
import Derived.Laws.Tables
import Derived.Laws.CopyOwn
import Derived.Lib.Hide
import Derived.Handy
import Derived.Deep.Onto
import Derived.IntWalk
import Derived.Laws.BitsAllLaws
import Derived.Laws.OwnMore
import Derived.Deep.AppendLies
import Derived.Deep.RegionHeld3
import Derived.Laws.PanicsMore
import Derived.Test.YtmekcgbljpeglaaDoorA1
import Derived.Test.YtmekcgbljpeglaaDoorA2
import Derived.Test.YtmekcgbljpeglaaDoorQT
import Derived.Test.YtmekcgbljpeglaaDoorT1
import Derived.Test.YtmekcgbljpeglaaDoorB4
import Derived.Test.YtmekcgbljpeglaaDoorO1
namespace Go.Proofs.YtmekcgbljpeglaaDoor
open Go.RowKit
set_option maxHeartbeats 400000
set_option linter.unusedVariables false

theorem news2 {W : World} {b : Nat} {x y : Value} (h0 : W.cell? ⟨b, 0, none⟩ = some x) (h1 : W.cell? ⟨b, 1, none⟩ = some y) : ∀ j u, ([x, y] : List Value)[j]? = some u → W.cell? ((⟨b, 0, none⟩ : Addr).add j) = some u := by
  intro j u hj
  match j, hj with
  | 0, hj => simp at hj; subst hj; simpa [Addr.add] using h0
  | 1, hj => simp at hj; subst hj; simpa [Addr.add] using h1
theorem and15 : ∀ n : Fin 256, bits .and .i64 (n.val : Int) 15 = ((n.val % 16 : Nat) : Int) := by decide +kernel
theorem dgtS : ∀ k : Fin 16, (⟨#[48, 49, 50, 51, 52, 53, 54, 55, 56, 57, 97, 98, 99, 100, 101, 102]⟩ : ByteArray)[k.val]'k.isLt = dgt k.val := by decide +kernel
/-- the text of the first k values. -/
def txtK (p : Px) : Nat → List UInt8
  | 0 => [35]
  | 1 => 35 :: hx2 (t8 p.r)
  | 2 => 35 :: (hx2 (t8 p.r) ++ hx2 (t8 p.g))
  | 3 => 35 :: (hx2 (t8 p.r) ++ (hx2 (t8 p.g) ++ hx2 (t8 p.b)))
  | _ => p.txt
def valK (p : Px) : Nat → Int
  | 0 => p.r
  | 1 => p.g
  | 2 => p.b
  | _ => p.a
theorem txtK_next (p : Px) (k : Nat) (h : k < 4) : txtK p (k + 1) = txtK p k ++ hx2 (t8 (valK p k)) := by
  obtain rfl | rfl | rfl | rfl : k = 0 ∨ k = 1 ∨ k = 2 ∨ k = 3 := by omega
  all_goals simp [txtK, valK, Px.txt]
theorem txtK_len (p : Px) (k : Nat) (h : k ≤ 4) : (txtK p k).length = 1 + 2 * k := by
  obtain rfl | rfl | rfl | rfl | rfl : k = 0 ∨ k = 1 ∨ k = 2 ∨ k = 3 ∨ k = 4 := by omega
  all_goals simp [txtK, Px.txt, hx2]
theorem ix4_0 (x y z t : Int) (W : World) : (Instr.index 53 (.agg #[.int .i64 x, .int .i64 y, .int .i64 z, .int .i64 t]) (.int .i64 0)).run Tryd.prog W = .ok (.int .i64 x) W := by
  simp [Instr.index, run_underlying Tryd.underlying53, asIntOf, go_sem]
theorem ix4_1 (x y z t : Int) (W : World) : (Instr.index 53 (.agg #[.int .i64 x, .int .i64 y, .int .i64 z, .int .i64 t]) (.int .i64 1)).run Tryd.prog W = .ok (.int .i64 y) W := by
  simp [Instr.index, run_underlying Tryd.underlying53, asIntOf, go_sem]
theorem ix4_2 (x y z t : Int) (W : World) : (Instr.index 53 (.agg #[.int .i64 x, .int .i64 y, .int .i64 z, .int .i64 t]) (.int .i64 2)).run Tryd.prog W = .ok (.int .i64 z) W := by
  simp [Instr.index, run_underlying Tryd.underlying53, asIntOf, go_sem]
theorem ix4_3 (x y z t : Int) (W : World) : (Instr.index 53 (.agg #[.int .i64 x, .int .i64 y, .int .i64 z, .int .i64 t]) (.int .i64 3)).run Tryd.prog W = .ok (.int .i64 t) W := by
  simp [Instr.index, run_underlying Tryd.underlying53, asIntOf, go_sem]
set_option maxHeartbeats 4000000 in
theorem k34 (p : Px) (w : World) : Calls Tryd.prog 34 #[p.val] w fun e w' => e = .returned (.string (mkS p.txt)) ∧ Below w.heap.size w w' := by
  obtain ⟨i0, hi, hz0', hz1, hz2⟩ := info_parts info5
  obtain ⟨r, g, b, a⟩ := p
  have HT : Hid (txtK ⟨r, g, b, a⟩ 4 = Px.txt ⟨r, g, b, a⟩) := Lib.hid rfl
  have NX := Lib.hid (txtK_next ⟨r, g, b, a⟩)
  have LN := Lib.hid (txtK_len ⟨r, g, b, a⟩)
  have C1 := Lib.hid (fun v w => k30 v w)
  have v0 : valK ⟨r, g, b, a⟩ 0 = r := rfl
  have v1 : valK ⟨r, g, b, a⟩ 1 = g := rfl
  have v2 : valK ⟨r, g, b, a⟩ 2 = b := rfl
  have v3 : valK ⟨r, g, b, a⟩ 3 = a := rfl
  have X0 : Hid (txtK ⟨r, g, b, a⟩ 0 = [35]) := Lib.hid rfl
  generalize Px.txt ⟨r, g, b, a⟩ = T at *
  generalize hTK : txtK ⟨r, g, b, a⟩ = TK at *
  generalize valK ⟨r, g, b, a⟩ = VK at *
  clear hTK
  unfold Px.val
  dsimp only
  go_enter Tryd.func34, Tryd.ntmps34
  have HO := World.ownsRow_lit (base := w.heap.size) (e := 5) (size := 1) (w.alloc (.cells #[.int .i64 r, .int .i64 g, .int .i64 b, .int .i64 a] 23)) #[.int .u8 35] 1 (by simp) (by unfold maxLen; decide) rfl
  have HB0 : Below w.heap.size w ((w.alloc (.cells #[.int .i64 r, .int .i64 g, .int .i64 b, .int .i64 a] 23)).alloc (.cells #[.int .u8 35] 5)) := bel_al (bel_al (Below.refl _ _) _) _
  go_wp2
  go_loopw [3, 17] (fun bb ii W => ∃ (k : Nat) (kk : Int), ii = .int .i64 kk ∧ kk = (k : Int) ∧ k ≤ 4 ∧ W.ownsRow w.heap.size 5 1 bb (TK k).length (bv (TK k)) ∧ Below w.heap.size w W) (fun _ ii _ => (4 - (intOf ii).toNat))
  case atStart => exact ⟨0, 0, rfl, rfl, by omega, by rw [X0.out]; simpa [bv] using HO, HB0⟩
  case round =>
    obtain ⟨k, kk, rfl, hkk, hk, ho, hnx⟩ := hrel
    obtain ⟨rfl, rfl⟩ | ⟨rfl, rfl⟩ | ⟨rfl, rfl⟩ | ⟨rfl, rfl⟩ | ⟨rfl, rfl⟩ : (k = 0 ∧ kk = 0) ∨ (k = 1 ∧ kk = 1) ∨ (k = 2 ∧ kk = 2) ∨ (k = 3 ∧ kk = 3) ∨ (k = 4 ∧ kk = 4) := by omega
    all_goals clear hkk
    · have hix := ix4_0 r g b a
      have hTn := NX.out 0 (by omega)
      rw [v0] at hTn
      obtain ⟨n, hn⟩ : ∃ n, n = t8 r := ⟨_, rfl⟩
      have hnl : n < 256 := by rw [hn]; exact t8_lt _
      have C2 : Hid (∀ w, Calls Tryd.prog 30 #[.int .i64 r] w fun e w' => e = .returned (.int .i64 (n : Int)) ∧ ∃ k, w' = w.drewN k) := Lib.hid fun w => by
        have := C1.out r w
        rw [t8_eq, ← hn] at this
        exact this
      rw [← hn] at hTn
      clear hn
      obtain ⟨h1, q1⟩ : ∃ h1, h1 = n / 16 := ⟨_, rfl⟩
      obtain ⟨h2, q2⟩ : ∃ h2, h2 = n % 16 := ⟨_, rfl⟩
      have hand : bits .and .i64 (n : Int) 15 = (h2 : Int) := by rw [q2]; exact and15 ⟨n, hnl⟩
      have hshr : (n : Int) / 16 = (h1 : Int) := by omega
      have b1 : h1 < 16 := by omega
      have b2 : h2 < 16 := by omega
      have hx1 := dgtS ⟨h1, b1⟩
      have hx2' := dgtS ⟨h2, b2⟩
      simp only at hx1 hx2'
      have hT2 : TK (1) = TK 0 ++ [dgt h1, dgt h2] := by rw [q1, q2]; exact hTn
      have b1i : (h1 : Int) < 16 := by omega
      have b2i : (h2 : Int) < 16 := by omega
      generalize dgt h1 = D1 at *
      generalize dgt h2 = D2 at *
      have HT2 := Lib.hid hT2
      clear hTn hT2 q1 q2
      go_wp2_with (go_at_call 30; fail)
      (with_reducible refine (C2.out _).mono ?_)
      rintro e1 w1 ⟨rfl, nq, rfl⟩
      go_wp2_with fail
      have ho2 : (wr.drewN nq).ownsRow w.heap.size 5 1 u3 (TK 0).length (bv (TK 0)) := ho
      have hnx2 := bel_dr hnx nq
      clear ho hnx
      generalize wr.drewN nq = W2 at *
      have hnd : Below w.heap.size w W2.drew := bel_dr hnx2 1
      go_region_held3 (fun W => Below w.heap.size w W)
        (first | exact hnd | assumption | exact Below.alloc (by assumption) (by assumption : Below w.heap.size w _).size _ | exact hB4)
        (first | (refine step_append_lies _ rfl _ _ 52 rfl w.heap.size 5 i0 (.int .u8 0) 1 1 Tryd.underlying52 hi hz0' hz1 hz2 rfl (by decide) _ _ (bv (TK 0)) rfl (ho2.drew.alloc _) ⟨_, 0, none⟩ 2 2 [.int .u8 (D1.toNat : Int), .int .u8 (D2.toNat : Int)] rfl rfl (news2 (by simp [go_sem]) (by simp [go_sem])) (by intro u hu; simp at hu; rcases hu with rfl | rfl <;> rfl) (by decide) (by unfold maxLen; have := LN.out 0 (by omega); omega) (by have := LN.out 0 (by omega); omega) (by assumption : Below w.heap.size w _).size _ rfl ?_; intro g' cap' w3 hown' hgrow hmv hgl; have hB4 : Below w.heap.size w w3 := Below.grown (by assumption) hgrow (by assumption : Below w.heap.size w _).size (fun j hj => (ho2.lt j hj).1)))
      all_goals
        go_wp2
        go_roundw
        case rel => exact ⟨1, 1, rfl, rfl, by omega, by rw [HT2.out, bv_append, List.length_append]; exact hown', by assumption⟩
        case measure => simp [intOf]
    · have hix := ix4_1 r g b a
      have hTn := NX.out 1 (by omega)
      rw [v1] at hTn
      obtain ⟨n, hn⟩ : ∃ n, n = t8 g := ⟨_, rfl⟩
      have hnl : n < 256 := by rw [hn]; exact t8_lt _
      have C2 : Hid (∀ w, Calls Tryd.prog 30 #[.int .i64 g] w fun e w' => e = .returned (.int .i64 (n : Int)) ∧ ∃ k, w' = w.drewN k) := Lib.hid fun w => by
        have := C1.out g w
        rw [t8_eq, ← hn] at this
        exact this
      rw [← hn] at hTn
      clear hn
      obtain ⟨h1, q1⟩ : ∃ h1, h1 = n / 16 := ⟨_, rfl⟩
      obtain ⟨h2, q2⟩ : ∃ h2, h2 = n % 16 := ⟨_, rfl⟩
      have hand : bits .and .i64 (n : Int) 15 = (h2 : Int) := by rw [q2]; exact and15 ⟨n, hnl⟩
      have hshr : (n : Int) / 16 = (h1 : Int) := by omega
      have b1 : h1 < 16 := by omega
      have b2 : h2 < 16 := by omega
      have hx1 := dgtS ⟨h1, b1⟩
      have hx2' := dgtS ⟨h2, b2⟩
      simp only at hx1 hx2'
      have hT2 : TK (2) = TK 1 ++ [dgt h1, dgt h2] := by rw [q1, q2]; exact hTn
      have b1i : (h1 : Int) < 16 := by omega
      have b2i : (h2 : Int) < 16 := by omega
      generalize dgt h1 = D1 at *
      generalize dgt h2 = D2 at *
      have HT2 := Lib.hid hT2
      clear hTn hT2 q1 q2
      go_wp2_with (go_at_call 30; fail)
      (with_reducible refine (C2.out _).mono ?_)
      rintro e1 w1 ⟨rfl, nq, rfl⟩
      go_wp2_with fail
      have ho2 : (wr.drewN nq).ownsRow w.heap.size 5 1 u3 (TK 1).length (bv (TK 1)) := ho
      have hnx2 := bel_dr hnx nq
      clear ho hnx
      generalize wr.drewN nq = W2 at *
      have hnd : Below w.heap.size w W2.drew := bel_dr hnx2 1
      go_region_held3 (fun W => Below w.heap.size w W)
        (first | exact hnd | assumption | exact Below.alloc (by assumption) (by assumption : Below w.heap.size w _).size _ | exact hB4)
        (first | (refine step_append_lies _ rfl _ _ 52 rfl w.heap.size 5 i0 (.int .u8 0) 1 1 Tryd.underlying52 hi hz0' hz1 hz2 rfl (by decide) _ _ (bv (TK 1)) rfl (ho2.drew.alloc _) ⟨_, 0, none⟩ 2 2 [.int .u8 (D1.toNat : Int), .int .u8 (D2.toNat : Int)] rfl rfl (news2 (by simp [go_sem]) (by simp [go_sem])) (by intro u hu; simp at hu; rcases hu with rfl | rfl <;> rfl) (by decide) (by unfold maxLen; have := LN.out 1 (by omega); omega) (by have := LN.out 1 (by omega); omega) (by assumption : Below w.heap.size w _).size _ rfl ?_; intro g' cap' w3 hown' hgrow hmv hgl; have hB4 : Below w.heap.size w w3 := Below.grown (by assumption) hgrow (by assumption : Below w.heap.size w _).size (fun j hj => (ho2.lt j hj).1)))
      all_goals
        go_wp2
        go_roundw
        case rel => exact ⟨2, 2, rfl, rfl, by omega, by rw [HT2.out, bv_append, List.length_append]; exact hown', by assumption⟩
        case measure => simp [intOf]
    · have hix := ix4_2 r g b a
      have hTn := NX.out 2 (by omega)
      rw [v2] at hTn
      obtain ⟨n, hn⟩ : ∃ n, n = t8 b := ⟨_, rfl⟩
      have hnl : n < 256 := by rw [hn]; exact t8_lt _
      have C2 : Hid (∀ w, Calls Tryd.prog 30 #[.int .i64 b] w fun e w' => e = .returned (.int .i64 (n : Int)) ∧ ∃ k, w' = w.drewN k) := Lib.hid fun w => by
        have := C1.out b w
        rw [t8_eq, ← hn] at this
        exact this
      rw [← hn] at hTn
      clear hn
      obtain ⟨h1, q1⟩ : ∃ h1, h1 = n / 16 := ⟨_, rfl⟩
      obtain ⟨h2, q2⟩ : ∃ h2, h2 = n % 16 := ⟨_, rfl⟩
      have hand : bits .and .i64 (n : Int) 15 = (h2 : Int) := by rw [q2]; exact and15 ⟨n, hnl⟩
      have hshr : (n : Int) / 16 = (h1 : Int) := by omega
      have b1 : h1 < 16 := by omega
      have b2 : h2 < 16 := by omega
      have hx1 := dgtS ⟨h1, b1⟩
      have hx2' := dgtS ⟨h2, b2⟩
      simp only at hx1 hx2'
      have hT2 : TK (3) = TK 2 ++ [dgt h1, dgt h2] := by rw [q1, q2]; exact hTn
      have b1i : (h1 : Int) < 16 := by omega
      have b2i : (h2 : Int) < 16 := by omega
      generalize dgt h1 = D1 at *
      generalize dgt h2 = D2 at *
      have HT2 := Lib.hid hT2
      clear hTn hT2 q1 q2
      go_wp2_with (go_at_call 30; fail)
      (with_reducible refine (C2.out _).mono ?_)
      rintro e1 w1 ⟨rfl, nq, rfl⟩
      go_wp2_with fail
      have ho2 : (wr.drewN nq).ownsRow w.heap.size 5 1 u3 (TK 2).length (bv (TK 2)) := ho
      have hnx2 := bel_dr hnx nq
      clear ho hnx
      generalize wr.drewN nq = W2 at *
      have hnd : Below w.heap.size w W2.drew := bel_dr hnx2 1
      go_region_held3 (fun W => Below w.heap.size w W)
        (first | exact hnd | assumption | exact Below.alloc (by assumption) (by assumption : Below w.heap.size w _).size _ | exact hB4)
        (first | (refine step_append_lies _ rfl _ _ 52 rfl w.heap.size 5 i0 (.int .u8 0) 1 1 Tryd.underlying52 hi hz0' hz1 hz2 rfl (by decide) _ _ (bv (TK 2)) rfl (ho2.drew.alloc _) ⟨_, 0, none⟩ 2 2 [.int .u8 (D1.toNat : Int), .int .u8 (D2.toNat : Int)] rfl rfl (news2 (by simp [go_sem]) (by simp [go_sem])) (by intro u hu; simp at hu; rcases hu with rfl | rfl <;> rfl) (by decide) (by unfold maxLen; have := LN.out 2 (by omega); omega) (by have := LN.out 2 (by omega); omega) (by assumption : Below w.heap.size w _).size _ rfl ?_; intro g' cap' w3 hown' hgrow hmv hgl; have hB4 : Below w.heap.size w w3 := Below.grown (by assumption) hgrow (by assumption : Below w.heap.size w _).size (fun j hj => (ho2.lt j hj).1)))
      all_goals
        go_wp2
        go_roundw
        case rel => exact ⟨3, 3, rfl, rfl, by omega, by rw [HT2.out, bv_append, List.length_append]; exact hown', by assumption⟩
        case measure => simp [intOf]
    · have hix := ix4_3 r g b a
      have hTn := NX.out 3 (by omega)
      rw [v3] at hTn
      obtain ⟨n, hn⟩ : ∃ n, n = t8 a := ⟨_, rfl⟩
      have hnl : n < 256 := by rw [hn]; exact t8_lt _
      have C2 : Hid (∀ w, Calls Tryd.prog 30 #[.int .i64 a] w fun e w' => e = .returned (.int .i64 (n : Int)) ∧ ∃ k, w' = w.drewN k) := Lib.hid fun w => by
        have := C1.out a w
        rw [t8_eq, ← hn] at this
        exact this
      rw [← hn] at hTn
      clear hn
      obtain ⟨h1, q1⟩ : ∃ h1, h1 = n / 16 := ⟨_, rfl⟩
      obtain ⟨h2, q2⟩ : ∃ h2, h2 = n % 16 := ⟨_, rfl⟩
      have hand : bits .and .i64 (n : Int) 15 = (h2 : Int) := by rw [q2]; exact and15 ⟨n, hnl⟩
      have hshr : (n : Int) / 16 = (h1 : Int) := by omega
      have b1 : h1 < 16 := by omega
      have b2 : h2 < 16 := by omega
      have hx1 := dgtS ⟨h1, b1⟩
      have hx2' := dgtS ⟨h2, b2⟩
      simp only at hx1 hx2'
      have hT2 : TK (4) = TK 3 ++ [dgt h1, dgt h2] := by rw [q1, q2]; exact hTn
      have b1i : (h1 : Int) < 16 := by omega
      have b2i : (h2 : Int) < 16 := by omega
      generalize dgt h1 = D1 at *
      generalize dgt h2 = D2 at *
      have HT2 := Lib.hid hT2
      clear hTn hT2 q1 q2
      go_wp2_with (go_at_call 30; fail)
      (with_reducible refine (C2.out _).mono ?_)
      rintro e1 w1 ⟨rfl, nq, rfl⟩
      go_wp2_with fail
      have ho2 : (wr.drewN nq).ownsRow w.heap.size 5 1 u3 (TK 3).length (bv (TK 3)) := ho
      have hnx2 := bel_dr hnx nq
      clear ho hnx
      generalize wr.drewN nq = W2 at *
      have hnd : Below w.heap.size w W2.drew := bel_dr hnx2 1
      go_region_held3 (fun W => Below w.heap.size w W)
        (first | exact hnd | assumption | exact Below.alloc (by assumption) (by assumption : Below w.heap.size w _).size _ | exact hB4)
        (first | (refine step_append_lies _ rfl _ _ 52 rfl w.heap.size 5 i0 (.int .u8 0) 1 1 Tryd.underlying52 hi hz0' hz1 hz2 rfl (by decide) _ _ (bv (TK 3)) rfl (ho2.drew.alloc _) ⟨_, 0, none⟩ 2 2 [.int .u8 (D1.toNat : Int), .int .u8 (D2.toNat : Int)] rfl rfl (news2 (by simp [go_sem]) (by simp [go_sem])) (by intro u hu; simp at hu; rcases hu with rfl | rfl <;> rfl) (by decide) (by unfold maxLen; have := LN.out 3 (by omega); omega) (by have := LN.out 3 (by omega); omega) (by assumption : Below w.heap.size w _).size _ rfl ?_; intro g' cap' w3 hown' hgrow hmv hgl; have hB4 : Below w.heap.size w w3 := Below.grown (by assumption) hgrow (by assumption : Below w.heap.size w _).size (fun j hj => (ho2.lt j hj).1)))
      all_goals
        go_wp2
        go_roundw
        case rel => exact ⟨4, 4, rfl, rfl, by omega, by rw [HT2.out, bv_append, List.length_append]; exact hown', by assumption⟩
        case measure => simp [intOf]
    · have hcv := run_string_own ho
      go_wp2
      go_ret
      exact ⟨by show _ = Ending.returned (.string (mkS T)); rw [← HT.out]; rfl, hnx⟩

end Go.Proofs.YtmekcgbljpeglaaDoor
