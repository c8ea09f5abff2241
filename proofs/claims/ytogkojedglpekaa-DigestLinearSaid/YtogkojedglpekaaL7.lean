import Derived.Test.YtogkojedglpekaaProg
import Derived.WalkKit
import Derived.WalkLawsBesides
import Derived.Outline
import Derived.Lib.Walk
import Derived.Deep.QuietTactic
import Derived.BigQuiet
import Derived.RowKit3
import Derived.Deep.LoopGhost
import Derived.Great.Walk
import Derived.Great.BuildSlice
import Derived.Laws.Rows
import Derived.Laws.Tables
import Derived.Laws.CopyOwn
import Derived.Lib.Hide
import Derived.Handy
import Derived.Deep.Onto
import Derived.Laws.IdiomStrings
import Derived.Laws.BitsAllLaws
import Derived.IntWalk
import Derived.Test.YtogkojedglpekaaA1
import Derived.Test.YtogkojedglpekaaA2
import Derived.Test.YtogkojedglpekaaK1
import Derived.Test.YtogkojedglpekaaK2
import Derived.Test.YtogkojedglpekaaB2
import Derived.Test.YtogkojedglpekaaB3
import Derived.Test.YtogkojedglpekaaP3
import Derived.Test.YtogkojedglpekaaP4
import Derived.Test.YtogkojedglpekaaP5
import Derived.Test.YtogkojedglpekaaP6
import Derived.Test.YtogkojedglpekaaR1
import Derived.Test.YtogkojedglpekaaR2
import Derived.Test.YtogkojedglpekaaR3
import Derived.Test.YtogkojedglpekaaA10
namespace Go.Proofs.Ytogkojedglpekaa
open Go.RowKit
set_option maxHeartbeats 400000
set_option linter.unusedVariables false

theorem u8_succ_ne (c : UInt8) : c ≠ c + 1 := by
  intro h
  have h2 := congrArg UInt8.toNat h
  rw [UInt8.toNat_add, show (1 : UInt8).toNat = 1 from rfl] at h2
  have h1 := c.toNat_lt
  omega
theorem mkS_size (l : List UInt8) : (mkS l).size = l.length := rfl
theorem bytes_of (F : List UInt8) (W : World) : ∃ cap W2, (convert 9 35 (.string (mkS F))).run Try.prog W = .ok (.slice (some ⟨W.heap.size, 0, none⟩) F.length cap) W2 ∧ Below W.heap.size W W2 ∧ W.heap.size < W2.heap.size ∧
    (∀ j (hj : j < F.length), W2.cell? ⟨W.heap.size, j, none⟩ = some (.int .u8 (F[j].toNat : Int))) ∧ (∀ j, j < F.length → W2.frozen? ⟨W.heap.size, j, none⟩ = false) := by
  have h := run_bytes_of_string (P := Try.prog) W 9 35 5 (mkS F) Try.underlying9 Try.underlying35 Try.underlying5
  rw [mkS_size] at h
  refine ⟨_, _, h, ?_, ?_, ?_, ?_⟩
  · exact Below.alloc (bel_dr (Below.refl _ _) 1) (by simp) _
  · simp
  · intro j hj
    rw [show W.heap.size = W.drew.heap.size by simp, cell_of_row _ _ j _ _ _ (heap_alloc_new _ _)]
    exact bytesRow_at (mkS F) _ j hj
  · intro j hj
    have hb : j < (bytesRow (mkS F) (grownCap W F.length 0 5)).size := by unfold bytesRow; simp; omega
    unfold World.frozen?
    rw [show (W.drew.alloc _).heap[W.heap.size]? = _ from heap_alloc_new W.drew _]
    simp
    omega
theorem set_cells (F : List UInt8) (W : World) (g i : Nat) (c : UInt8) (hi : i < F.length) (hc : ∀ j (hj : j < F.length), W.cell? ⟨g, j, none⟩ = some (.int .u8 (F[j].toNat : Int))) (j : Nat) (hj : j < (F.set i c).length) :
    (W.setCell ⟨g, i, none⟩ (.int .u8 (c.toNat : Int))).cell? ⟨g, j, none⟩ = some (.int .u8 ((F.set i c)[j].toNat : Int)) := by
  have hj' : j < F.length := by simpa using hj
  have h0 := hc j hj'
  by_cases e : i = j
  · subst e
    simp [go_sem, h0]
  · rw [List.getElem_set_ne e]
    rw [← h0]
    simp [go_sem, e]
set_option maxHeartbeats 4000000 in
theorem l7 (s : List UInt8) (n : Nat) (c : UInt8) (w : World) (hs : s.length ≤ 200000000000000) (hn : n < 65536) : Calls Try.prog 7 #[.string (mkS s), .int .u16 (n : Int), .int .u8 (c.toNat : Int)] w fun e w' => e = .returned (.bool true) ∧ Below w.heap.size w w' := by
  have HB := Lib.hid (Below.refl w.heap.size w)
  have A0 := Lib.hid (fun W => c10 W)
  have hz : (mkS s).size = s.length := rfl
  by_cases hb : 3000 < s.length
  · have h1 : (3000 : Int) < (s.length : Int) := by omega
    clear hs
    go_enter Try.func7, Try.ntmps7
    go_wp2_with (go_at_call 10; fail)
    (with_reducible refine (A0.out _).mono ?_)
    rintro e0 w1 ⟨rfl, hb⟩
    have HB := Lib.hid (bel_trans HB.out hb)
    clear hb
    go_wp2_with (go_at_call 10; fail)
    (with_reducible refine (A0.out _).mono ?_)
    rintro e1 w2 ⟨rfl, hb⟩
    have HB := Lib.hid (bel_trans HB.out hb)
    clear hb
    go_wp2
    go_ret
    exact ⟨rfl, HB.out⟩
  · have h1 := decide_eq_false (p := (3000 : Int) < (s.length : Int)) (by omega)
    have h1n := decide_eq_false (p := 3000 < s.length) hb
    have F1 := Lib.hid (fun W => c17 s W (by omega))
    rw [show frameP s = (frameF s, 0) by unfold frameP; rw [if_neg (by omega)]] at F1
    have hfl : (frameF s).length = (encU s.length).length + s.length + 4 := by unfold frameF encT; simp only [List.length_append, four_len]
    have hu := encU_len s.length
    have OT := Lib.hid (fun i x h1 h2 h3 => open_told s (by omega) i x h1 h2 h3)
    obtain ⟨L, hL⟩ : ∃ L, (frameF s).length = L := ⟨_, rfl⟩
    obtain ⟨m4, hm4⟩ : ∃ m4, m4 = s.length + 4 := ⟨_, rfl⟩
    obtain ⟨r, hr⟩ : ∃ r, n % m4 = r := ⟨_, rfl⟩
    obtain ⟨i, hi⟩ : ∃ i, i = L - 1 - r := ⟨_, rfl⟩
    have hL0 : L ≤ 3014 := by omega
    have hrm : r < m4 := by rw [← hr]; exact Nat.mod_lt _ (by omega)
    have k1 : IntKind.i64.wrap ((L : Int) - 1) = (L : Int) - 1 := IntWalk.i64_in _ (by omega)
    have k2 : IntKind.i64.wrap ((s.length : Int) + 4) = (m4 : Int) := by rw [IntWalk.i64_in _ (by omega)]; omega
    have k3 : (n : Int) % (m4 : Int) = (r : Int) := by omega
    have k3t : (n : Int).tmod (m4 : Int) = (r : Int) := by rw [Int.tmod_eq_emod_of_nonneg (by omega)]; exact k3
    have k4 : IntKind.i64.wrap ((L : Int) - 1 - (r : Int)) = (i : Int) := by rw [IntWalk.i64_in _ (by omega)]; omega
    have k5 : ((m4 : Int) == 0) = false := by simp; omega
    have k5n : (m4 == 0) = false := by simp; omega
    have k5a : ¬ (m4 = 0) := by omega
    have k5b : (0 : Int) < (m4 : Int) := by omega
    have k6 := decide_eq_false (p := (L : Int) < (m4 : Int)) (by omega)
    have k6n := decide_eq_false (p := L < m4) (by omega)
    have k7 : IntKind.i64.wrap (n : Int) = (n : Int) := IntWalk.i64_in _ (by omega)
    have hil : i < L := by omega
    have hilI : (i : Int) < (L : Int) := by omega
    have hii : (encU s.length).length ≤ i := by omega
    simp only at F1
    obtain ⟨F, hF⟩ : ∃ F, frameF s = F := ⟨_, rfl⟩
    rw [hF] at F1 OT hL
    obtain ⟨x, hx⟩ : ∃ x, F[i]'(by rw [hL]; exact hil) = x := ⟨_, rfl⟩
    have hxs : F[i]? = some x := by rw [List.getElem?_eq_getElem (by rw [hL]; exact hil), hx]
    have hzF : (mkS F).size = L := hL
    have BO := Lib.hid (fun W => bytes_of F W)
    have SC := Lib.hid (fun W g c hc => set_cells F W g i c (by rw [hL]; exact hil) hc)
    have OO := Lib.hid (fun (y : UInt8) (hy : x ≠ y) => OT.out i y hii (by rw [hL]; exact hil) (by rw [hxs]; intro h; exact hy (Option.some.inj h)))
    have O19 := Lib.hid (fun (y : UInt8) W => c19 (F.set i y) W (by rw [List.length_set, hL]; omega))
    have XC := Lib.hid hx
    have HL := Lib.hid hL
    have HXS := Lib.hid hxs
    clear hs hn hfl hu hF hi hr hx hxs hm4 OT hrm hii hL0
    by_cases hxc : x = c
    · have hxb : ((x.toNat : Int) == (c.toNat : Int)) = true := by rw [hxc]; simp
      have hy : x ≠ c + 1 := by rw [hxc]; exact u8_succ_ne c
      have hw : IntKind.u8.wrap ((c.toNat : Int) + 1) = ((c + 1).toNat : Int) := by rw [IntKind.wrap_u8', UInt8.toNat_add, show (1 : UInt8).toNat = 1 from rfl]; omega
      have O20 := Lib.hid (O19.out (c + 1))
      rw [OO.out (c + 1) hy] at O20
      obtain ⟨y, hye⟩ : ∃ y, c + 1 = y := ⟨_, rfl⟩
      rw [hye] at hw O20
      clear O19 OO hy hye
      go_enter Try.func7, Try.ntmps7
      go_wp2_with (go_at_call 10; fail)
      (with_reducible refine (A0.out _).mono ?_)
      rintro e0 w1 ⟨rfl, hb⟩
      have HB := Lib.hid (bel_trans HB.out hb)
      clear hb
      go_wp2_with (go_at_call 17; fail)
      (with_reducible refine (F1.out _).mono ?_)
      rintro e1 w2 ⟨rfl, hb⟩
      have HB := Lib.hid (bel_trans HB.out hb)
      clear hb
      obtain ⟨cap, W2, cv, hb2, hs2, hc2, hf2⟩ := BO.out w2
      have cell := hc2 i (by rw [HL.out]; exact hil)
      rw [XC.out] at cell
      have froz := hf2 i (by rw [HL.out]; exact hil)
      rw [HL.out] at cv
      have CB := Lib.hid (run_convert_bytes_back (P := Try.prog) (W2.setCell ⟨w2.heap.size, i, none⟩ (.int .u8 (y.toNat : Int))) 35 9 5 ⟨w2.heap.size, 0, none⟩ cap (F.set i y) Try.underlying35 Try.underlying5 Try.underlying9 (fun j hj => by
        rw [addz]
        exact SC.out W2 w2.heap.size y hc2 j hj))
      have cb := CB.out
      rw [List.length_set, HL.out] at cb
      have hwb := HB.out.size
      have HB2 := Lib.hid (bel_trans HB.out hb2)
      generalize w2.heap.size = g at *
      clear hc2 hf2 hb2 CB
      go_wp2_with (go_at_call 19; fail)
      (with_reducible refine (O20.out _).mono ?_)
      rintro e5 w5 ⟨rfl, hb⟩
      have HB := Lib.hid (bel_trans (HB2.out.setCell (p := ⟨g, i, none⟩) hwb (.int .u8 (y.toNat : Int))) hb)
      clear hb
      go_wp2
      go_ret
      exact ⟨rfl, HB.out⟩
    · have hxb : ((x.toNat : Int) == (c.toNat : Int)) = false := by simp; intro h; exact hxc (UInt8.toNat_inj.1 (by omega))
      have hxbn : (x.toNat == c.toNat) = false := by simp; intro h; exact hxc (UInt8.toNat_inj.1 (by omega))
      have O20 := Lib.hid (O19.out c)
      rw [OO.out c hxc] at O20
      obtain ⟨y, hye⟩ : ∃ y, y = c := ⟨_, rfl⟩
      rw [← hye] at O20 hxb hxbn ⊢
      clear O19 OO hxc hye
      go_enter Try.func7, Try.ntmps7
      go_wp2_with (go_at_call 10; fail)
      (with_reducible refine (A0.out _).mono ?_)
      rintro e0 w1 ⟨rfl, hb⟩
      have HB := Lib.hid (bel_trans HB.out hb)
      clear hb
      go_wp2_with (go_at_call 17; fail)
      (with_reducible refine (F1.out _).mono ?_)
      rintro e1 w2 ⟨rfl, hb⟩
      have HB := Lib.hid (bel_trans HB.out hb)
      clear hb
      obtain ⟨cap, W2, cv, hb2, hs2, hc2, hf2⟩ := BO.out w2
      have cell := hc2 i (by rw [HL.out]; exact hil)
      rw [XC.out] at cell
      have froz := hf2 i (by rw [HL.out]; exact hil)
      rw [HL.out] at cv
      have CB := Lib.hid (run_convert_bytes_back (P := Try.prog) (W2.setCell ⟨w2.heap.size, i, none⟩ (.int .u8 (y.toNat : Int))) 35 9 5 ⟨w2.heap.size, 0, none⟩ cap (F.set i y) Try.underlying35 Try.underlying5 Try.underlying9 (fun j hj => by
        rw [addz]
        exact SC.out W2 w2.heap.size y hc2 j hj))
      have cb := CB.out
      rw [List.length_set, HL.out] at cb
      have hwb := HB.out.size
      have HB2 := Lib.hid (bel_trans HB.out hb2)
      generalize w2.heap.size = g at *
      clear hc2 hf2 hb2 CB
      go_wp2_with (go_at_call 19; fail)
      (with_reducible refine (O20.out _).mono ?_)
      rintro e5 w5 ⟨rfl, hb⟩
      have HB := Lib.hid (bel_trans (HB2.out.setCell (p := ⟨g, i, none⟩) hwb (.int .u8 (y.toNat : Int))) hb)
      clear hb
      go_wp2
      go_ret
      exact ⟨rfl, HB.out⟩

end Go.Proofs.Ytogkojedglpekaa
