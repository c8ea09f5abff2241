import Derived.Test.YtecpdngaagmgfaaProg
import Derived.WalkKit
import Derived.WalkLawsBesides
import Derived.Outline
import Derived.Lib.Walk
import Derived.Deep.QuietTactic
import Derived.BigQuiet
import Derived.RowKit3
import Derived.Deep.LoopGhost
import Derived.Great.Walk
import Derived.Great.BuildSlice
import Derived.Laws.Rows
import Derived.Laws.Tables
import Derived.Laws.CopyOwn
import Derived.Lib.Hide
import Derived.Handy
import Derived.Deep.Onto
import Derived.WalkSpells
import Derived.Deep.RegionHeld3
import Derived.Test.YtecpdngaagmgfaaA1
import Derived.Test.YtecpdngaagmgfaaA2
import Derived.Test.YtecpdngaagmgfaaA3
import Derived.Test.YtecpdngaagmgfaaB2
import Derived.Test.YtecpdngaagmgfaaB3
import Derived.Test.YtecpdngaagmgfaaB4
import Derived.Test.YtecpdngaagmgfaaC1
import Derived.Test.YtecpdngaagmgfaaC2
import Derived.Test.YtecpdngaagmgfaaC3
import Derived.Test.YtecpdngaagmgfaaC4
import Derived.Test.YtecpdngaagmgfaaC5
import Derived.Test.YtecpdngaagmgfaaC6
import Derived.Test.YtecpdngaagmgfaaC7
import Derived.Test.YtecpdngaagmgfaaD1
import Derived.Test.YtecpdngaagmgfaaD2
import Derived.Test.YtecpdngaagmgfaaD3
import Derived.Test.YtecpdngaagmgfaaD4
import Derived.Test.YtecpdngaagmgfaaD5
import Derived.Test.YtecpdngaagmgfaaE1
import Derived.Test.YtecpdngaagmgfaaE2
namespace Go.Proofs.Ytecpdngaagmgfaa
open Go.RowKit
set_option maxHeartbeats 400000
set_option linter.unusedVariables false

def stepR (k m : Int) (s : Rd) : Rd :=
  if k = 0 ∨ k = 1 then (rU s).2 else if k = 2 then (rT m s).2 else if k = 3 then (rC m s).2 else if k = 4 then (rL m s).2 else if k = 5 then failR s m else s
theorem rU_dead {s : Rd} (h : s.2 ≠ 0) : rU s = (0, s) := by unfold rU; rw [if_neg h]
theorem rC_dead {m : Int} {s : Rd} (h : s.2 ≠ 0) : rC m s = (0, s) := by
  unfold rC
  rw [rU_dead h, if_neg (by simp only; omega)]
theorem rT_dead {m : Int} {s : Rd} (h : s.2 ≠ 0) : (rT m s).2 = s := by
  unfold rT
  rw [rC_dead h, if_pos h]
theorem rL_dead {m : Int} {s : Rd} (h : s.2 ≠ 0) : (rL m s).2 = s := by
  unfold rL
  rw [rC_dead h]
  rfl
theorem stepR_dead {k m : Int} {s : Rd} (h : s.2 ≠ 0) : stepR k m s = s := by
  unfold stepR
  rw [rU_dead h, rT_dead h, rC_dead h, rL_dead h]
  have : failR s m = s := by unfold failR; rw [if_neg h]
  rw [this]
  split <;> (try rfl)
  split <;> (try rfl)
  split <;> (try rfl)
  split <;> (try rfl)
  split <;> rfl
theorem rLgo_left : ∀ (k : Nat) (acc : List Int) (s : Rd), (rLgo k acc s).2.1.length ≤ s.1.length
  | 0, acc, s => Nat.le_refl _
  | k + 1, acc, s => by
    unfold rLgo
    split
    · exact (rU_len s).1
    · exact Nat.le_trans (rLgo_left k _ _) (rU_len s).1
theorem stepR_len (k m : Int) (s : Rd) : (stepR k m s).1.length ≤ s.1.length := by
  unfold stepR
  split
  · exact (rU_len s).1
  split
  · unfold rT
    have := rC_len m s
    split
    · exact this
    split
    · exact this
    · simp only [List.length_drop]
      omega
  split
  · exact rC_len m s
  split
  · exact Nat.le_trans (rLgo_left _ _ _) (rC_len m s)
  split
  · rw [failR_fst]
    exact Nat.le_refl _
  · exact Nat.le_refl _
/-- below w nothing but two blocks may have changed. -/
structure Two (w w' : World) (a b : Option Nat) : Prop where
  os : w'.os = w.os
  tape : w'.tape = w.tape
  output : w'.output = w.output
  size : w.heap.size ≤ w'.heap.size
  block : ∀ k, k < w.heap.size → some k ≠ a → some k ≠ b → w'.heap[k]? = w.heap[k]?
theorem Two.of {w w' : World} {a b : Option Nat} (h : Below w.heap.size w w') : Two w w' a b := ⟨h.os, h.tape, h.output, h.size, fun k hk _ _ => h.block k hk⟩
theorem Two.fst {w w' w'' : World} {a b : Option Nat} (h : Two w w' a b) (g : w'.grownBy w'' a) : Two w w'' a b :=
  ⟨g.os.trans h.os, g.tape.trans h.tape, g.output.trans h.output, Nat.le_trans h.size g.size, fun k hk ha hb => (g.block k (Nat.lt_of_lt_of_le hk h.size) ha).trans (h.block k hk ha hb)⟩
theorem Two.snd {w w' w'' : World} {a b : Option Nat} (h : Two w w' a b) (g : w'.grownBy w'' b) : Two w w'' a b :=
  ⟨g.os.trans h.os, g.tape.trans h.tape, g.output.trans h.output, Nat.le_trans h.size g.size, fun k hk ha hb => (g.block k (Nat.lt_of_lt_of_le hk h.size) hb).trans (h.block k hk ha hb)⟩
theorem rdr_drew {W : World} {v : Value} {s : Rd} (h : rdr W v s) : rdr W.drew v s := h
theorem rds_drew1 {W : World} {v : Value} {s : Rd} (h : rds W v s) : rds W.drew v s := h
theorem Two.drew {w w' : World} {a b : Option Nat} (h : Two w w' a b) : Two w w'.drew a b := ⟨h.os, h.tape, h.output, h.size, h.block⟩
theorem Two.drewN {w w' : World} {a b : Option Nat} (h : Two w w' a b) (q : Nat) : Two w (w'.drewN q) a b := ⟨h.os, h.tape, h.output, h.size, h.block⟩
theorem rdr_drewN {W : World} {v : Value} {s : Rd} (h : rdr W v s) (q : Nat) : rdr (W.drewN q) v s := h
theorem rL_lim (m : Int) (s : Rd) (h : s.1.length ≤ 17592186044000) : (rL m s).1.length ≤ 9000000000000000000 := by
  have h1 := (rLgo_len (rC m s).1 [] (rC m s).2).2
  have h2 := rC_len m s
  unfold rL
  simp only [List.length_nil] at h1
  omega
theorem argI_keep {W W' : World} {u : Value} {l : List Int} {q : Option Nat} (h : argI W W.heap.size u l) (k : W.grownBy W' q) (hq : ∀ g, u.ownBlock = some g → some g ≠ q) : argI W' W'.heap.size u l := by
  obtain ⟨ao, cap, rfl, h⟩ := h
  refine ⟨ao, cap, rfl, fun hl => ?_⟩
  obtain ⟨g, o, rfl, hg, hc⟩ := h hl
  refine ⟨g, o, rfl, Nat.lt_of_lt_of_le hg k.size, fun j hj => ?_⟩
  exact (World.cell?_of_block (a := ⟨g, o + j, none⟩) (k.block g hg (hq g rfl))).trans (hc j hj)

set_option maxHeartbeats 4000000 in
theorem c20 (r x : Value) (s : Rd) (k m : Int) (w : World) (hk : i64 k) (hm : i64 m) (hr : rdr w r s) (hx : rds w x s) (hne : ∀ p, pblk r = some p → pblk x ≠ some p) (hl : s.1.length ≤ 17592186044000) :
    Calls Try.prog 20 #[r, x, .agg #[.int .i64 k, .int .i64 m]] w fun e w' => e = .returned (.bool true) ∧ rdr w' r (stepR k m s) ∧ rds w' x (stepR k m s) ∧ Two w w' (pblk r) (pblk x) := by
  have NE1 := Lib.hid (fun p (hp : pblk r = some p) (e : some p = pblk x) => hne p hp e.symm)
  have NE2 := Lib.hid (fun p (hp : pblk x = some p) (e : some p = pblk r) => hne p e.symm hp)
  have HR := Lib.hid (rdr_gr hr ((Below.refl _ w).alloc (Nat.le_refl _) (Obj.cells #[.int .i64 k, .int .i64 m] 39)))
  have HX := Lib.hid (rds_keep hx (grown_alloc w (Obj.cells #[.int .i64 k, .int .i64 m] 39) none) (fun p _ e => by cases e))
  have HT : Hid (Two w (w.alloc (Obj.cells #[.int .i64 k, .int .i64 m] 39)) (pblk r) (pblk x)) := Lib.hid (Two.of ((Below.refl _ w).alloc (Nat.le_refl _) _))
  have LR := Lib.hid (fun W h => e21 r (stepR k m s) W h)
  have LX := Lib.hid (fun W h => s22 x (stepR k m s) W h)
  have ER := Lib.hid (fun W h => e23 r (stepR k m s) W h)
  have EX := Lib.hid (fun W h => s24 x (stepR k m s) W h)
  have DR := Lib.hid (fun W h => e25 r (stepR k m s) W h)
  have DX := Lib.hid (fun W h => s26 x (stepR k m s) W h)
  have HM := Lib.hid hm
  have HL := Lib.hid hl
  have PR := Lib.hid (rdr_blk hr)
  have PX := Lib.hid (rds_blk hx)
  clear hr hx hne hm hl hk
  obtain ⟨s', hs'⟩ : ∃ s', stepR k m s = s' := ⟨_, rfl⟩
  rw [hs'] at LR LX ER EX DR DX ⊢
  have HS := Lib.hid hs'
  clear hs'
  have BX : Hid (some w.heap.size ≠ pblk r) := Lib.hid (fun e => by have := PR.out _ e.symm; omega)
  have BX2 : Hid (some w.heap.size ≠ pblk x) := Lib.hid (fun e => by have := PX.out _ e.symm; omega)
  have KP1 := Lib.hid (show ∀ W w1 : World, (w.heap.size < W.heap.size ∧ W.cell? ⟨w.heap.size, 1, none⟩ = some (.int .i64 m)) → W.grownBy w1 (pblk r) → (w.heap.size < w1.heap.size ∧ w1.cell? ⟨w.heap.size, 1, none⟩ = some (.int .i64 m)) from fun W w1 h hg => ⟨Nat.lt_of_lt_of_le h.1 hg.size, (World.cell?_of_block (a := ⟨w.heap.size, 1, none⟩) (hg.block _ h.1 BX.out)).trans h.2⟩)
  have KP2 := Lib.hid (show ∀ W w1 : World, (w.heap.size < W.heap.size ∧ W.cell? ⟨w.heap.size, 1, none⟩ = some (.int .i64 m)) → W.grownBy w1 (pblk x) → (w.heap.size < w1.heap.size ∧ w1.cell? ⟨w.heap.size, 1, none⟩ = some (.int .i64 m)) from fun W w1 h hg => ⟨Nat.lt_of_lt_of_le h.1 hg.size, (World.cell?_of_block (a := ⟨w.heap.size, 1, none⟩) (hg.block _ h.1 BX2.out)).trans h.2⟩)
  have KPD := Lib.hid (show ∀ (W : World) (q : Nat), (w.heap.size < W.heap.size ∧ W.cell? ⟨w.heap.size, 1, none⟩ = some (.int .i64 m)) → (w.heap.size < (W.drewN q).heap.size ∧ (W.drewN q).cell? ⟨w.heap.size, 1, none⟩ = some (.int .i64 m)) from fun W q h => h)
  have KO := Lib.hid (show ∀ (W : World), w.heap.size < W.heap.size → ∀ {u : Value}, (∀ g, u.ownBlock = some g → W.heap.size ≤ g) → ∀ g, u.ownBlock = some g → some g ≠ pblk x from fun W h u ho g e e2 => by have h1 := ho g e; have h2 := PX.out _ e2.symm; omega)
  rcases (show k = 0 ∨ k = 1 ∨ k = 2 ∨ k = 3 ∨ k = 4 ∨ k = 5 ∨ (k ≠ 0 ∧ k ≠ 1 ∧ k ≠ 2 ∧ k ≠ 3 ∧ k ≠ 4 ∧ k ≠ 5) by omega) with rfl | rfl | rfl | rfl | rfl | rfl | ⟨k0, k1, k2, k3, k4, k5⟩
  · have hs2 : (rU s).2 = s' := by have h := HS.out; unfold stepR at h; first | exact (by simpa using h) | exact (show (rU s).2 = s' by simpa using h)
    have C1 := Lib.hid (fun W h => e31 r s W h)
    have C2 := Lib.hid (fun W h => s34 x s W h)
    rw [hs2] at C1 C2
    clear hs2
    go_enter Try.func20, Try.ntmps20
    go_wp2_with (go_at_call 31; fail)
    (with_reducible refine (C1.out _ HR.out).mono ?_)
    rintro e1 w1 ⟨rfl, hr1, hg1⟩
    have HR1 := Lib.hid hr1
    have HX1 := Lib.hid (rds_keep HX.out hg1 NE2.out)
    have HT1 := Lib.hid (HT.out.fst hg1)
    clear hr1 hg1 HR HX HT C1
    go_wp2_with (go_at_call 34; fail)
    (with_reducible refine (C2.out _ HX1.out).mono ?_)
    rintro e1 w2 ⟨rfl, hx2, hg2⟩
    have HX2 := Lib.hid hx2
    have HR2 := Lib.hid (rdr_keep HR1.out hg2 NE1.out)
    have HT2 := Lib.hid (HT1.out.snd hg2)
    clear hx2 hg2 HR1 HX1 HT1 C2
    go_wp2_with (go_at_call 21; fail)
    (with_reducible refine (LR.out _ HR2.out).mono ?_)
    rintro e1 wa ⟨rfl, rfl⟩
    go_wp2_with (go_at_call 22; fail)
    (with_reducible refine (LX.out _ HX2.out).mono ?_)
    rintro e1 wa ⟨rfl, qa, rfl⟩
    have HRa := Lib.hid (rdr_drewN HR2.out qa)
    have HXa := Lib.hid (rds_drew HX2.out qa)
    have HTa := Lib.hid (HT2.out.drewN qa)
    go_wp2_with (go_at_call 23; fail)
    (with_reducible refine (ER.out _ HRa.out).mono ?_)
    rintro e1 wa ⟨rfl, rfl⟩
    go_wp2_with (go_at_call 24; fail)
    (with_reducible refine (EX.out _ HXa.out).mono ?_)
    rintro e1 wa ⟨rfl, rfl⟩
    go_wp2_with (go_at_call 25; fail)
    (with_reducible refine (DR.out _ HRa.out).mono ?_)
    rintro e1 wa ⟨rfl, rfl⟩
    go_wp2_with (go_at_call 26; fail)
    (with_reducible refine (DX.out _ HXa.out).mono ?_)
    rintro e1 wa ⟨rfl, qb, rfl⟩
    have HF := Lib.hid (And.intro (rdr_drewN HR2.out (qa + qb)) (And.intro (rds_drew HX2.out (qa + qb)) (HT2.out.drewN (qa + qb))))
    clear HRa HXa HTa
    go_wp2
    go_ret
    exact ⟨by simp, HF.out⟩
  · have hs2 : (rI s).2 = s' := by have h := HS.out; unfold stepR at h; first | exact (by simpa using h) | exact (show (rU s).2 = s' by simpa using h)
    have C1 := Lib.hid (fun W h => e30 r s W h)
    have C2 := Lib.hid (fun W h => s35 x s W h)
    rw [hs2] at C1 C2
    clear hs2
    go_enter Try.func20, Try.ntmps20
    go_wp2_with (go_at_call 30; fail)
    (with_reducible refine (C1.out _ HR.out).mono ?_)
    rintro e1 w1 ⟨rfl, hr1, hg1⟩
    have HR1 := Lib.hid hr1
    have HX1 := Lib.hid (rds_keep HX.out hg1 NE2.out)
    have HT1 := Lib.hid (HT.out.fst hg1)
    clear hr1 hg1 HR HX HT C1
    go_wp2_with (go_at_call 35; fail)
    (with_reducible refine (C2.out _ HX1.out).mono ?_)
    rintro e1 w2 ⟨rfl, hx2, hg2⟩
    have HX2 := Lib.hid hx2
    have HR2 := Lib.hid (rdr_keep HR1.out hg2 NE1.out)
    have HT2 := Lib.hid (HT1.out.snd hg2)
    clear hx2 hg2 HR1 HX1 HT1 C2
    go_wp2_with (go_at_call 21; fail)
    (with_reducible refine (LR.out _ HR2.out).mono ?_)
    rintro e1 wa ⟨rfl, rfl⟩
    go_wp2_with (go_at_call 22; fail)
    (with_reducible refine (LX.out _ HX2.out).mono ?_)
    rintro e1 wa ⟨rfl, qa, rfl⟩
    have HRa := Lib.hid (rdr_drewN HR2.out qa)
    have HXa := Lib.hid (rds_drew HX2.out qa)
    have HTa := Lib.hid (HT2.out.drewN qa)
    go_wp2_with (go_at_call 23; fail)
    (with_reducible refine (ER.out _ HRa.out).mono ?_)
    rintro e1 wa ⟨rfl, rfl⟩
    go_wp2_with (go_at_call 24; fail)
    (with_reducible refine (EX.out _ HXa.out).mono ?_)
    rintro e1 wa ⟨rfl, rfl⟩
    go_wp2_with (go_at_call 25; fail)
    (with_reducible refine (DR.out _ HRa.out).mono ?_)
    rintro e1 wa ⟨rfl, rfl⟩
    go_wp2_with (go_at_call 26; fail)
    (with_reducible refine (DX.out _ HXa.out).mono ?_)
    rintro e1 wa ⟨rfl, qb, rfl⟩
    have HF := Lib.hid (And.intro (rdr_drewN HR2.out (qa + qb)) (And.intro (rds_drew HX2.out (qa + qb)) (HT2.out.drewN (qa + qb))))
    clear HRa HXa HTa
    go_wp2
    go_ret
    exact ⟨by simp, HF.out⟩
  · have hs2 : (rT m s).2 = s' := by have h := HS.out; unfold stepR at h; first | exact (by simpa using h) | exact (show (rU s).2 = s' by simpa using h)
    have C1 := Lib.hid (fun W h => e27 r s m W HM.out h)
    have C2 := Lib.hid (fun W h => s36 x s m W HM.out h)
    rw [hs2] at C1 C2
    clear hs2
    go_enter Try.func20, Try.ntmps20
    go_wp2_with fail
    have hz0 : w.heap.size < (w.alloc (.cells #[.int .i64 2, .int .i64 m] 39)).drew.heap.size := by simp
    have z1 : (w.alloc (.cells #[.int .i64 2, .int .i64 m] 39)).drew.cell? ⟨w.heap.size, 1, none⟩ = some (.int .i64 m) := (World.cell?_alloc_at _ _ _ _ rfl).trans rfl
    go_region_held3 (fun W => w.heap.size < W.heap.size ∧ W.cell? ⟨w.heap.size, 1, none⟩ = some (.int .i64 m)) (first | exact ⟨hz0, z1⟩ | assumption | exact KP1.out _ _ (by assumption) hg1 | exact KP2.out _ _ (by assumption) hg2 | exact KPD.out _ _ (by assumption)) (first | (go_at_call 27; (with_reducible refine (C1.out _ (rdr_drew HR.out)).mono ?_); rintro e1 w1 ⟨rfl, hr1, hg1⟩) | (go_at_call 36; (with_reducible refine (C2.out _ (rds_keep (rds_drew1 HX.out) hg1 NE2.out)).mono ?_); rintro e1 w2 ⟨rfl, hx2, hg2⟩))
    have HX2 := Lib.hid hx2
    have HR2 := Lib.hid (rdr_keep hr1 hg2 NE1.out)
    have HT2 := Lib.hid ((HT.out.drew.fst hg1).snd hg2)
    clear hx2 hg2 hr1 hg1 HR HX HT C1 C2 hz0 z1
    go_wp2_with (go_at_call 21; fail)
    (with_reducible refine (LR.out _ HR2.out).mono ?_)
    rintro e1 wa ⟨rfl, rfl⟩
    go_wp2_with (go_at_call 22; fail)
    (with_reducible refine (LX.out _ HX2.out).mono ?_)
    rintro e1 wa ⟨rfl, qa, rfl⟩
    have HRa := Lib.hid (rdr_drewN HR2.out qa)
    have HXa := Lib.hid (rds_drew HX2.out qa)
    have HTa := Lib.hid (HT2.out.drewN qa)
    go_wp2_with (go_at_call 23; fail)
    (with_reducible refine (ER.out _ HRa.out).mono ?_)
    rintro e1 wa ⟨rfl, rfl⟩
    go_wp2_with (go_at_call 24; fail)
    (with_reducible refine (EX.out _ HXa.out).mono ?_)
    rintro e1 wa ⟨rfl, rfl⟩
    go_wp2_with (go_at_call 25; fail)
    (with_reducible refine (DR.out _ HRa.out).mono ?_)
    rintro e1 wa ⟨rfl, rfl⟩
    go_wp2_with (go_at_call 26; fail)
    (with_reducible refine (DX.out _ HXa.out).mono ?_)
    rintro e1 wa ⟨rfl, qb, rfl⟩
    have HF := Lib.hid (And.intro (rdr_drewN HR2.out (qa + qb)) (And.intro (rds_drew HX2.out (qa + qb)) (HT2.out.drewN (qa + qb))))
    clear HRa HXa HTa
    go_wp2
    go_ret
    exact ⟨by simp, HF.out⟩
  · have hs2 : (rC m s).2 = s' := by have h := HS.out; unfold stepR at h; first | exact (by simpa using h) | exact (show (rU s).2 = s' by simpa using h)
    have C1 := Lib.hid (fun W h => e37 r s m W HM.out h)
    have C2 := Lib.hid (fun W h => s38 x s m W HM.out h)
    rw [hs2] at C1 C2
    clear hs2
    go_enter Try.func20, Try.ntmps20
    go_wp2_with fail
    have hz0 : w.heap.size < (w.alloc (.cells #[.int .i64 3, .int .i64 m] 39)).drew.heap.size := by simp
    have z1 : (w.alloc (.cells #[.int .i64 3, .int .i64 m] 39)).drew.cell? ⟨w.heap.size, 1, none⟩ = some (.int .i64 m) := (World.cell?_alloc_at _ _ _ _ rfl).trans rfl
    go_region_held3 (fun W => w.heap.size < W.heap.size ∧ W.cell? ⟨w.heap.size, 1, none⟩ = some (.int .i64 m)) (first | exact ⟨hz0, z1⟩ | assumption | exact KP1.out _ _ (by assumption) hg1 | exact KP2.out _ _ (by assumption) hg2 | exact KPD.out _ _ (by assumption)) (first | (go_at_call 37; (with_reducible refine (C1.out _ (rdr_drew HR.out)).mono ?_); rintro e1 w1 ⟨rfl, hr1, hg1⟩) | (go_at_call 38; (with_reducible refine (C2.out _ (rds_keep (rds_drew1 HX.out) hg1 NE2.out)).mono ?_); rintro e1 w2 ⟨rfl, hx2, hg2⟩))
    have HX2 := Lib.hid hx2
    have HR2 := Lib.hid (rdr_keep hr1 hg2 NE1.out)
    have HT2 := Lib.hid ((HT.out.drew.fst hg1).snd hg2)
    clear hx2 hg2 hr1 hg1 HR HX HT C1 C2 hz0 z1
    go_wp2_with (go_at_call 21; fail)
    (with_reducible refine (LR.out _ HR2.out).mono ?_)
    rintro e1 wa ⟨rfl, rfl⟩
    go_wp2_with (go_at_call 22; fail)
    (with_reducible refine (LX.out _ HX2.out).mono ?_)
    rintro e1 wa ⟨rfl, qa, rfl⟩
    have HRa := Lib.hid (rdr_drewN HR2.out qa)
    have HXa := Lib.hid (rds_drew HX2.out qa)
    have HTa := Lib.hid (HT2.out.drewN qa)
    go_wp2_with (go_at_call 23; fail)
    (with_reducible refine (ER.out _ HRa.out).mono ?_)
    rintro e1 wa ⟨rfl, rfl⟩
    go_wp2_with (go_at_call 24; fail)
    (with_reducible refine (EX.out _ HXa.out).mono ?_)
    rintro e1 wa ⟨rfl, rfl⟩
    go_wp2_with (go_at_call 25; fail)
    (with_reducible refine (DR.out _ HRa.out).mono ?_)
    rintro e1 wa ⟨rfl, rfl⟩
    go_wp2_with (go_at_call 26; fail)
    (with_reducible refine (DX.out _ HXa.out).mono ?_)
    rintro e1 wa ⟨rfl, qb, rfl⟩
    have HF := Lib.hid (And.intro (rdr_drewN HR2.out (qa + qb)) (And.intro (rds_drew HX2.out (qa + qb)) (HT2.out.drewN (qa + qb))))
    clear HRa HXa HTa
    go_wp2
    go_ret
    exact ⟨by simp, HF.out⟩
  · have hs2 : (rL m s).2 = s' := by have h := HS.out; unfold stepR at h; first | exact (by simpa using h) | exact (show (rU s).2 = s' by simpa using h)
    have C1 := Lib.hid (fun W h => e29 r s m W HM.out h (fun j _ hj => by have := HL.out; omega))
    have C2 := Lib.hid (fun W h => s39 x s m W HM.out h (fun j _ hj => by have := HL.out; omega))
    rw [hs2] at C1 C2
    clear hs2
    go_enter Try.func20, Try.ntmps20
    go_wp2_with fail
    have hz0 : w.heap.size < (w.alloc (.cells #[.int .i64 4, .int .i64 m] 39)).drew.heap.size := by simp
    have z1 : (w.alloc (.cells #[.int .i64 4, .int .i64 m] 39)).drew.cell? ⟨w.heap.size, 1, none⟩ = some (.int .i64 m) := (World.cell?_alloc_at _ _ _ _ rfl).trans rfl
    go_region_held3 (fun W => w.heap.size < W.heap.size ∧ W.cell? ⟨w.heap.size, 1, none⟩ = some (.int .i64 m)) (first | exact ⟨hz0, z1⟩ | assumption | exact KP1.out _ _ (by assumption) hg1 | exact KP2.out _ _ (by assumption) hg2 | exact KPD.out _ _ (by assumption)) (first | (go_at_call 29; (with_reducible refine (C1.out _ (rdr_drew HR.out)).mono ?_); rintro e1 w1 ⟨u1, rfl, ha1, ho1, hr1, hg1⟩) | (go_at_call 39; (with_reducible refine (C2.out _ (rds_keep (rds_drew1 HX.out) hg1 NE2.out)).mono ?_); rintro e1 w2 ⟨u2, rfl, ha2, ho2, hx2, hg2⟩) | (go_at_call 28; (with_reducible refine (c28 _ _ (rL m s).1 w2.heap.size w2 (argI_keep ha1 hg2 (KO.out _ hz0 ho1)) ha2 (rL_lim m s HL.out)).mono ?_); rintro e1 w3 ⟨rfl, qc, rfl⟩))
    have HX2 := Lib.hid hx2
    have HR2 := Lib.hid (rdr_keep hr1 hg2 NE1.out)
    have HT2 := Lib.hid ((HT.out.drew.fst hg1).snd hg2)
    clear hx2 hg2 hr1 hg1 HR HX HT C1 C2 hz0 z1
    clear ha1 ho1 ha2 ho2
    go_wp2_with (go_at_call 21; fail)
    (with_reducible refine (LR.out _ (rdr_drewN HR2.out qc)).mono ?_)
    rintro e1 wa ⟨rfl, rfl⟩
    go_wp2_with (go_at_call 22; fail)
    (with_reducible refine (LX.out _ (rds_drew HX2.out qc)).mono ?_)
    rintro e1 wa ⟨rfl, qa, rfl⟩
    have HRa := Lib.hid (rdr_drewN HR2.out (qc + qa))
    have HXa := Lib.hid (rds_drew HX2.out (qc + qa))
    have HTa := Lib.hid (HT2.out.drewN (qc + qa))
    go_wp2_with (go_at_call 23; fail)
    (with_reducible refine (ER.out _ HRa.out).mono ?_)
    rintro e1 wa ⟨rfl, rfl⟩
    go_wp2_with (go_at_call 24; fail)
    (with_reducible refine (EX.out _ HXa.out).mono ?_)
    rintro e1 wa ⟨rfl, rfl⟩
    go_wp2_with (go_at_call 25; fail)
    (with_reducible refine (DR.out _ HRa.out).mono ?_)
    rintro e1 wa ⟨rfl, rfl⟩
    go_wp2_with (go_at_call 26; fail)
    (with_reducible refine (DX.out _ HXa.out).mono ?_)
    rintro e1 wa ⟨rfl, qb, rfl⟩
    have HF := Lib.hid (And.intro (rdr_drewN HR2.out (qc + qa + qb)) (And.intro (rds_drew HX2.out (qc + qa + qb)) (HT2.out.drewN (qc + qa + qb))))
    clear HRa HXa HTa
    go_wp2
    go_ret
    exact ⟨by simp, HF.out⟩
  · have hs2 : failR s m = s' := by have h := HS.out; unfold stepR at h; first | exact (by simpa using h) | exact (show (rU s).2 = s' by simpa using h)
    have C1 := Lib.hid (fun W h => e40 r s m W h)
    have C2 := Lib.hid (fun W h => s41 x s m W h)
    rw [hs2] at C1 C2
    clear hs2
    go_enter Try.func20, Try.ntmps20
    go_wp2_with (go_at_call 40; fail)
    (with_reducible refine (C1.out _ HR.out).mono ?_)
    rintro e1 w1 ⟨rfl, hr1, hg1⟩
    have HR1 := Lib.hid hr1
    have HX1 := Lib.hid (rds_keep HX.out hg1 NE2.out)
    have HT1 := Lib.hid (HT.out.fst hg1)
    have z1 := (World.cell?_of_block (a := ⟨w.heap.size, 1, none⟩) (hg1.block w.heap.size (by simp) BX.out)).trans ((World.cell?_alloc_at _ _ _ _ rfl).trans rfl : (w.alloc (.cells #[.int .i64 5, .int .i64 m] 39)).cell? ⟨w.heap.size, 1, none⟩ = some (Value.int .i64 m))
    clear hr1 hg1 HR HX HT C1
    go_wp2_with (go_at_call 41; fail)
    (with_reducible refine (C2.out _ HX1.out).mono ?_)
    rintro e1 w2 ⟨rfl, hx2, hg2⟩
    have HX2 := Lib.hid hx2
    have HR2 := Lib.hid (rdr_keep HR1.out hg2 NE1.out)
    have HT2 := Lib.hid (HT1.out.snd hg2)
    clear hx2 hg2 HR1 HX1 HT1 C2
    go_wp2_with (go_at_call 21; fail)
    (with_reducible refine (LR.out _ HR2.out).mono ?_)
    rintro e1 wa ⟨rfl, rfl⟩
    go_wp2_with (go_at_call 22; fail)
    (with_reducible refine (LX.out _ HX2.out).mono ?_)
    rintro e1 wa ⟨rfl, qa, rfl⟩
    have HRa := Lib.hid (rdr_drewN HR2.out qa)
    have HXa := Lib.hid (rds_drew HX2.out qa)
    have HTa := Lib.hid (HT2.out.drewN qa)
    go_wp2_with (go_at_call 23; fail)
    (with_reducible refine (ER.out _ HRa.out).mono ?_)
    rintro e1 wa ⟨rfl, rfl⟩
    go_wp2_with (go_at_call 24; fail)
    (with_reducible refine (EX.out _ HXa.out).mono ?_)
    rintro e1 wa ⟨rfl, rfl⟩
    go_wp2_with (go_at_call 25; fail)
    (with_reducible refine (DR.out _ HRa.out).mono ?_)
    rintro e1 wa ⟨rfl, rfl⟩
    go_wp2_with (go_at_call 26; fail)
    (with_reducible refine (DX.out _ HXa.out).mono ?_)
    rintro e1 wa ⟨rfl, qb, rfl⟩
    have HF := Lib.hid (And.intro (rdr_drewN HR2.out (qa + qb)) (And.intro (rds_drew HX2.out (qa + qb)) (HT2.out.drewN (qa + qb))))
    clear HRa HXa HTa
    go_wp2
    go_ret
    exact ⟨by simp, HF.out⟩
  · have f0 : (k == 0) = false := by simp [k0]
    have f1 : (k == 1) = false := by simp [k1]
    have f2 : (k == 2) = false := by simp [k2]
    have f3 : (k == 3) = false := by simp [k3]
    have f4 : (k == 4) = false := by simp [k4]
    have f5 : (k == 5) = false := by simp [k5]
    have hs2 : s = s' := by have h := HS.out; unfold stepR at h; simpa [k0, k1, k2, k3, k4, k5] using h
    subst hs2
    clear k0 k1 k2 k3 k4 k5
    go_enter Try.func20, Try.ntmps20
    go_wp2_with (go_at_call 21; fail)
    (with_reducible refine (LR.out _ HR.out).mono ?_)
    rintro e1 wa ⟨rfl, rfl⟩
    go_wp2_with (go_at_call 22; fail)
    (with_reducible refine (LX.out _ HX.out).mono ?_)
    rintro e1 wa ⟨rfl, qa, rfl⟩
    have HRa := Lib.hid (rdr_drewN HR.out qa)
    have HXa := Lib.hid (rds_drew HX.out qa)
    have HTa := Lib.hid (HT.out.drewN qa)
    go_wp2_with (go_at_call 23; fail)
    (with_reducible refine (ER.out _ HRa.out).mono ?_)
    rintro e1 wa ⟨rfl, rfl⟩
    go_wp2_with (go_at_call 24; fail)
    (with_reducible refine (EX.out _ HXa.out).mono ?_)
    rintro e1 wa ⟨rfl, rfl⟩
    go_wp2_with (go_at_call 25; fail)
    (with_reducible refine (DR.out _ HRa.out).mono ?_)
    rintro e1 wa ⟨rfl, rfl⟩
    go_wp2_with (go_at_call 26; fail)
    (with_reducible refine (DX.out _ HXa.out).mono ?_)
    rintro e1 wa ⟨rfl, qb, rfl⟩
    have HF := Lib.hid (And.intro (rdr_drewN HR.out (qa + qb)) (And.intro (rds_drew HX.out (qa + qb)) (HT.out.drewN (qa + qb))))
    clear HRa HXa HTa
    go_wp2
    go_ret
    exact ⟨by simp, HF.out⟩

end Go.Proofs.Ytecpdngaagmgfaa
