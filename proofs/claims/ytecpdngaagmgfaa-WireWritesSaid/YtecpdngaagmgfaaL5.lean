import Derived.Test.YtecpdngaagmgfaaProg
import Derived.WalkKit
import Derived.WalkLawsBesides
import Derived.Outline
import Derived.Lib.Walk
import Derived.Deep.QuietTactic
import Derived.BigQuiet
import Derived.RowKit3
import Derived.Deep.LoopGhost
import Derived.Great.Walk
import Derived.Great.BuildSlice
import Derived.Laws.Rows
import Derived.Laws.Tables
import Derived.Laws.CopyOwn
import Derived.Lib.Hide
import Derived.Handy
import Derived.Deep.Onto
import Derived.WalkSpells
import Derived.Deep.RegionHeld3
import Derived.Test.YtecpdngaagmgfaaA1
import Derived.Test.YtecpdngaagmgfaaA2
import Derived.Test.YtecpdngaagmgfaaA3
import Derived.Test.YtecpdngaagmgfaaB2
import Derived.Test.YtecpdngaagmgfaaB3
import Derived.Test.YtecpdngaagmgfaaB4
import Derived.Test.YtecpdngaagmgfaaC1
import Derived.Test.YtecpdngaagmgfaaC2
import Derived.Test.YtecpdngaagmgfaaC3
import Derived.Test.YtecpdngaagmgfaaC4
import Derived.Test.YtecpdngaagmgfaaC5
import Derived.Test.YtecpdngaagmgfaaC6
import Derived.Test.YtecpdngaagmgfaaC7
import Derived.Test.YtecpdngaagmgfaaD1
import Derived.Test.YtecpdngaagmgfaaD2
import Derived.Test.YtecpdngaagmgfaaD3
import Derived.Test.YtecpdngaagmgfaaD4
import Derived.Test.YtecpdngaagmgfaaD5
import Derived.Test.YtecpdngaagmgfaaE1
import Derived.Test.YtecpdngaagmgfaaE2
import Derived.Test.YtecpdngaagmgfaaL20
namespace Go.Proofs.Ytecpdngaagmgfaa
open Go.RowKit
set_option maxHeartbeats 400000
set_option linter.unusedVariables false

def argT (W : World) (B : Nat) (v : Value) (L : List (Int × Int)) : Prop :=
  ∃ ao cap, v = .slice ao L.length cap ∧ (0 < L.length → ∃ g o, ao = some ⟨g, o, none⟩ ∧ g < B ∧ ∀ k, k < L.length → W.cell? ⟨g, o + k * 2, none⟩ = some (.int .i64 (L.getD k (0, 0)).1) ∧ W.cell? ⟨g, o + k * 2 + 1, none⟩ = some (.int .i64 (L.getD k (0, 0)).2))
def allT (L : List (Int × Int)) : Prop := ∀ k, k < L.length → i64 (L.getD k (0, 0)).1 ∧ i64 (L.getD k (0, 0)).2
theorem belT {a W W' : World} {p q : Option Nat} (h : Below a.heap.size a W) (t : Two W W' p q) (hp : ∀ k, p = some k → a.heap.size ≤ k) (hq : ∀ k, q = some k → a.heap.size ≤ k) : Below a.heap.size a W' :=
  ⟨t.os.trans h.os, t.tape.trans h.tape, t.output.trans h.output, Nat.le_trans h.size t.size, fun k hk => (t.block k (Nat.lt_of_lt_of_le hk h.size) (fun e => by have := hp k e.symm; omega) (fun e => by have := hq k e.symm; omega)).trans (h.block k hk)⟩
theorem rdr_two {W W' : World} {v : Value} {s : Rd} {a b : Option Nat} (h : rdr W v s) (t : Two W W' a b) (ha : ∀ p, pblk v = some p → some p ≠ a) (hb : ∀ p, pblk v = some p → some p ≠ b) : rdr W' v s := by
  rcases h with h | ⟨p, e, mk, rfl, ⟨c0, c1, c2⟩, ⟨z0, z1⟩, hp, h2, h3⟩
  · exact Or.inl h
  · have hb := t.block p hp (ha p rfl) (hb p rfl)
    exact Or.inr ⟨p, e, mk, rfl, ⟨(World.cell?_of_block (a := ⟨p, 0, none⟩) hb).trans c0, (World.cell?_of_block (a := ⟨p, 1, none⟩) hb).trans c1, (World.cell?_of_block (a := ⟨p, 2, none⟩) hb).trans c2⟩,
      ⟨(World.frozen?_of_block (a := ⟨p, 0, none⟩) hb).trans z0, (World.frozen?_of_block (a := ⟨p, 1, none⟩) hb).trans z1⟩, Nat.lt_of_lt_of_le hp t.size, h2, h3⟩
theorem rdr_nil (W : World) : rdr W (.pointer none) ([], 14) := Or.inl ⟨rfl, rfl⟩
theorem rds_nil (W : World) : rds W (.pointer none) ([], 14) := Or.inl ⟨rfl, rfl⟩
theorem rdr_raw (W : World) : rdr (W.alloc (.cells #[.string (mkS []), .int .i64 0, .bool false] 45)) (.pointer (some ⟨W.heap.size, 0, none⟩)) ([], 14) :=
  Or.inr ⟨W.heap.size, 0, false, rfl, ⟨by simp [go_sem], by simp [go_sem], by simp [go_sem]⟩, ⟨by simp [go_sem], by simp [go_sem]⟩, by simp, rfl, by simp⟩
theorem rds_raw (W : World) : rds (W.alloc (.cells #[.string (mkS []), .int .i64 0, .int .i64 0, .bool false] 47)) (.pointer (some ⟨W.heap.size, 0, none⟩)) ([], 14) :=
  Or.inr ⟨W.heap.size, 0, false, [], 0, rfl, ⟨by simp [go_sem], by simp [go_sem], by simp [go_sem], by simp [go_sem]⟩, ⟨by simp [go_sem], by simp [go_sem]⟩, by simp, rfl, rfl, by simp, by simp⟩
set_option maxHeartbeats 4000000 in
theorem l5 (v : Value) (L : List (Int × Int)) (w : World) (h : argT w w.heap.size v L) (hL : allT L) (hlen : L.length ≤ 9000000000000000000) :
    Calls Try.prog 5 #[v] w fun e w' => e = .returned (.bool true) ∧ Below w.heap.size w w' := by
  obtain ⟨ao, cap, rfl, h⟩ := h
  obtain ⟨n, hn⟩ : ∃ n, L.length = n := ⟨_, rfl⟩
  unfold allT at hL
  rw [hn] at h hL hlen ⊢
  have H := Lib.hid h
  have HL := Lib.hid hL
  clear h hL hn
  have hB0 : Below w.heap.size w (w.alloc (.cells #[.string (mkS []), .int .i64 0, .bool false] 45)) := (Below.refl _ w).alloc (Nat.le_refl _) _
  have hr0 := rdr_raw w
  go_enter Try.func5, Try.ntmps5
  go_wp2
  go_loopw [4] (fun i W => ∃ k : Nat, k ≤ n ∧ i = .int .i64 (k : Int) ∧ Below w.heap.size w W ∧ rdr W (.pointer (some ⟨w.heap.size, 0, none⟩)) ([], 14)) (fun i _ => (n - (intOf i).toNat))
  case atStart => exact ⟨0, by omega, rfl, hB0, hr0⟩
  case round =>
    clear hB0 hr0
    obtain ⟨k, hk, rfl, hB, hr⟩ := hrel
    by_cases hlt : k < n
    · obtain ⟨g, o, rfl, hg, hc⟩ := H.out (by omega)
      obtain ⟨hc0, hc1⟩ := hc k hlt
      obtain ⟨b0, b1⟩ := HL.out k hlt
      generalize L.getD k (0, 0) = T at *
      obtain ⟨x, y⟩ := T
      simp only at hc0 hc1 b0 b1
      have hlt' : (k : Int) < (n : Int) := by omega
      have f0 := (hB.cell (p := ⟨g, o + k * 2, none⟩) hg).trans hc0
      have f1 := (hB.cell (p := ⟨g, o + k * 2 + 1, none⟩) hg).trans hc1
      have C1 := Lib.hid (fun W => c20 (.pointer none) (.pointer none) ([], 14) x y W b0 b1 (rdr_nil W) (rds_nil W) (fun p e => by cases e) (by simp))
      have kk : IntKind.i64.wrap ((k : Int) + 1) = (k : Int) + 1 := IntWalk.i64_in _ (by omega)
      go_wp2_with (go_at_call 20; fail)
      (with_reducible refine (C1.out _).mono ?_)
      rintro e1 w1 ⟨rfl, _, _, t1⟩
      have hB1 := belT hB t1 (fun k e => by cases e) (fun k e => by cases e)
      have hr1 := rdr_two hr t1 (fun p _ e => by cases e) (fun p _ e => by cases e)
      replace f0 := (hB1.cell (p := ⟨g, o + k * 2, none⟩) hg).trans hc0
      replace f1 := (hB1.cell (p := ⟨g, o + k * 2 + 1, none⟩) hg).trans hc1
      have hgw : g < w1.heap.size := Nat.lt_of_lt_of_le hg hB1.size
      have hwp : w.heap.size < w1.heap.size := by
        rcases hr1 with ⟨e, _⟩ | ⟨p, _, _, e, _, _, hp, _⟩
        · cases e
        · injection e with e
          injection e with e
          injection e with e
          omega
      have hr2 := rdr_gr hr1 ((Below.refl _ w1).alloc (Nat.le_refl _) (.cells #[.string (mkS []), .int .i64 0, .int .i64 0, .bool false] 47))
      have hx2 := rds_raw w1
      have hB2 := hB1.alloc hB1.size (.cells #[.string (mkS []), .int .i64 0, .int .i64 0, .bool false] 47)
      have C2 := Lib.hid (c20 _ _ ([], 14) x y _ b0 b1 hr2 hx2 (fun p e e2 => by simp [pblk] at e e2; omega) (by simp))
      have HB2 := Lib.hid hB2
      have HR2 := Lib.hid hr2
      clear hB hr hr2 hx2 hB2 t1 C1 hB1 hr1 hc hc0 hc1
      go_wp2_with (go_at_call 20; fail)
      (with_reducible refine C2.out.mono ?_)
      rintro e1 w2 ⟨rfl, hr3, _, t2⟩
      rw [stepR_dead (by simp)] at hr3
      have hB3 := belT HB2.out t2 (fun k e => by simp [pblk] at e; omega) (fun k e => by simp [pblk] at e; omega)
      clear t2 f0 f1 C2 HB2 HR2
      go_wp2
      go_roundw
      case rel => exact ⟨k + 1, by omega, by simp, hB3, hr3⟩
      case measure => simp [intOf]; omega
    · obtain rfl : n = k := by omega
      have E1 := Lib.hid (fun W h => e23 (.pointer (some ⟨w.heap.size, 0, none⟩)) ([], 14) W h)
      have E2 := Lib.hid (fun W h => e25 (.pointer (some ⟨w.heap.size, 0, none⟩)) ([], 14) W h)
      rw [show endR ([], 14) = 14 by rfl] at E2
      simp only at E1
      have HR := Lib.hid hr
      have HB := Lib.hid hB
      clear hr hB
      go_wp2_with (go_at_call 23; fail)
      (with_reducible refine (E1.out _ HR.out).mono ?_)
      rintro e1 w1 ⟨rfl, rfl⟩
      go_wp2_with (go_at_call 25; fail)
      (with_reducible refine (E2.out _ HR.out).mono ?_)
      rintro e1 w1 ⟨rfl, rfl⟩
      go_wp2_with (go_at_call 17; fail)
      (with_reducible refine (c17 _).mono ?_)
      rintro e1 w1 ⟨rfl, hb⟩
      have HF := Lib.hid (belB HB.out hb)
      clear hb
      go_wp2
      go_ret
      exact ⟨rfl, HF.out⟩

end Go.Proofs.Ytecpdngaagmgfaa
