import Derived.Test.YtogkojedglpekaaProg
import Derived.WalkKit
import Derived.WalkLawsBesides
import Derived.Outline
import Derived.Lib.Walk
import Derived.Deep.QuietTactic
import Derived.BigQuiet
import Derived.RowKit3
import Derived.Deep.LoopGhost
import Derived.Laws.Rows
import Derived.Laws.Tables
import Derived.Laws.CopyOwn
import Derived.Lib.Hide
import Derived.Handy
import Derived.Deep.Onto
import Derived.WalkSpells
import Derived.Test.YtogkojedglpekaaA1
import Derived.Test.YtogkojedglpekaaA2
import Derived.Test.YtogkojedglpekaaA3
import Derived.Test.YtogkojedglpekaaB2
import Derived.Test.YtogkojedglpekaaC1
import Derived.Test.YtogkojedglpekaaC2
import Derived.Test.YtogkojedglpekaaC3
namespace Go.Proofs.Ytogkojedglpekaa
open Go.RowKit
set_option maxHeartbeats 400000
set_option linter.unusedVariables false

theorem mkS_drop (l : List UInt8) (k : Nat) : (mkS l).extract k l.length = mkS (l.drop k) := by
  apply ByteArray.ext
  simp [mkS, ByteArray.data_extract, List.extract_toArray, List.extract_eq_take_drop]
  rw [List.take_of_length_le (by simp)]
theorem mkS_take (l : List UInt8) (k : Nat) (h : k ≤ l.length) : (mkS l).extract 0 k = mkS (l.take k) := by
  apply ByteArray.ext
  simp [mkS, ByteArray.data_extract, List.extract_toArray, List.extract_eq_take_drop]
theorem grown_both {a b c : World} {row : Option Nat} (h : a.grownBy b row) (k : b.grownBy c row) : a.grownBy c row :=
  ⟨k.os.trans h.os, k.tape.trans h.tape, k.output.trans h.output, Nat.le_trans h.size k.size, fun i hi hn => (k.block i (Nat.lt_of_lt_of_le hi h.size) hn).trans (h.block i hi hn)⟩
theorem rdr_ptr {W : World} {p : Nat} {s : Rd} (h : rdr W (.pointer (some ⟨p, 0, none⟩)) s) : ∃ e mk, (W.cell? ⟨p, 0, none⟩ = some (.string (mkS s.1)) ∧ W.cell? ⟨p, 1, none⟩ = some (.int .i64 e) ∧ W.cell? ⟨p, 2, none⟩ = some (.bool mk)) ∧
    (W.frozen? ⟨p, 0, none⟩ = false ∧ W.frozen? ⟨p, 1, none⟩ = false) ∧ p < W.heap.size ∧ s.2 = (if mk then e else 14) ∧ s.1.length ≤ 9000000000000000000 := by
  rcases h with ⟨h, _⟩ | ⟨p', e, mk, h, h1, h2, h3, h4, h5⟩
  · cases h
  · injection h with h
    injection h with h
    injection h with h
    subst h
    exact ⟨e, mk, h1, h2, h3, h4, h5⟩
set_option maxHeartbeats 2000000 in
theorem e36 (v : Value) (s : Rd) (w : World) (h : rdr w v s) : Calls Try.prog 36 #[v] w fun e w' => e = .returned (.int .u64 ((rU s).1 : Nat)) ∧ rdr w' v (rU s).2 ∧ w.grownBy w' (pblk v) := by
  have C := Lib.hid (e28 v s w h)
  have H := Lib.hid h
  by_cases h0 : s.2 = 0
  · have hu : rU s = ((decU s.1).1, (s.1.drop (decU s.1).2.1, (decU s.1).2.2)) := by unfold rU; rw [if_pos h0]
    rcases h with ⟨rfl, h2⟩ | ⟨p, e, mk, rfl, ⟨c0, c1, c2⟩, ⟨z0, z1⟩, hp, h2, hl⟩
    · rw [h2] at h0
      cases h0
    · have h00 := h0
      rw [h2] at h00
      cases mk
      · cases h00
      · rw [h0] at C
        rw [hu]
        have HF := Lib.hid (fun f => e34 (.pointer (some ⟨p, 0, none⟩)) s f w H.out)
        obtain ⟨l, x⟩ := s
        simp only at c0 hl HF h0 ⊢
        subst h0
        have D := Lib.hid (e37 l w hl)
        have hle := (decU_lt l).2
        obtain ⟨d1, d2, d3, hD⟩ : ∃ d1 d2 d3, decU l = (d1, d2, d3) := ⟨_, _, _, rfl⟩
        rw [hD] at D hle ⊢
        simp only at D hle ⊢
        have hz : (mkS l).size = l.length := rfl
        clear h2 hu hD H h00
        go_enter Try.func36, Try.ntmps36
        go_wp2_with (go_at_call 28; fail)
        (with_reducible refine C.out.mono ?_)
        rintro e1 w1 ⟨rfl, rfl⟩
        go_wp2_with (go_at_call 37; fail)
        (with_reducible refine D.out.mono ?_)
        rintro e1 w1 ⟨rfl, rfl⟩
        go_wp2_with (go_at_call 34; fail)
        (with_reducible refine (HF.out _).mono ?_)
        rintro e1 w1 ⟨rfl, hr, hg⟩
        obtain ⟨e', mk', ⟨a0, a1, a2⟩, ⟨y0, y1⟩, hp', hs', _⟩ := rdr_ptr hr
        simp only [failR_fst] at a0
        clear c0 c1 c2 z0 z1
        have hxd := mkS_drop l d2
        have HXD := Lib.hid hxd
        clear hxd
        go_wp2
        go_ret
        refine ⟨rfl, Or.inr ⟨p, e', mk', rfl, ⟨?_, ?_, ?_⟩, ⟨?_, ?_⟩, ?_, ?_, ?_⟩, grown_both hg (put_grown w1 p 0 _)⟩
        · rw [← HXD.out]
          simp [go_sem, *]
        · simp [go_sem, *]
        · simp [go_sem, *]
        · simp [go_sem, *]
        · simp [go_sem, *]
        · simp [World.setCell]; omega
        · have : failR (l, (0 : Int)) d3 = (l, d3) := rfl
          rw [this] at hs'
          exact hs'
        · simp only [List.length_drop]
          omega
  · have hu : rU s = (0, s) := by unfold rU; rw [if_neg h0]
    rw [hu]
    have h1 : (s.2 == 0) = false := by simp [h0]
    have h2 : (s.2 != 0) = true := by simp [h0]
    generalize hx : s.2 = x at C h1 h2
    clear h h0 hu hx
    go_enter Try.func36, Try.ntmps36
    go_wp2_with (go_at_call 28; fail)
    (with_reducible refine C.out.mono ?_)
    rintro e1 w1 ⟨rfl, rfl⟩
    go_wp2
    go_ret
    exact ⟨rfl, H.out, grown_same _ _⟩

end Go.Proofs.Ytogkojedglpekaa
