import Derived.Test.YtecpdngaagmgfaaProg
import Derived.WalkKit
import Derived.WalkLawsBesides
import Derived.Outline
import Derived.Lib.Walk
import Derived.Deep.QuietTactic
import Derived.BigQuiet
import Derived.RowKit3
import Derived.Deep.LoopGhost
import Derived.Great.Walk
import Derived.Great.BuildSlice
import Derived.Laws.Rows
import Derived.Laws.Tables
import Derived.Laws.CopyOwn
import Derived.Lib.Hide
import Derived.Handy
import Derived.Deep.Onto
import Derived.WalkSpells
import Derived.Test.YtecpdngaagmgfaaA1
import Derived.Test.YtecpdngaagmgfaaA2
import Derived.Test.YtecpdngaagmgfaaA3
import Derived.Test.YtecpdngaagmgfaaB2
import Derived.Test.YtecpdngaagmgfaaB3
import Derived.Test.YtecpdngaagmgfaaC1
import Derived.Test.YtecpdngaagmgfaaC2
import Derived.Test.YtecpdngaagmgfaaC3
import Derived.Test.YtecpdngaagmgfaaC4
import Derived.Test.YtecpdngaagmgfaaC7
import Derived.Test.YtecpdngaagmgfaaD1
import Derived.Test.YtecpdngaagmgfaaD2
import Derived.Test.YtecpdngaagmgfaaD3
import Derived.Test.YtecpdngaagmgfaaD4
import Derived.Test.YtecpdngaagmgfaaQT
namespace Go.Proofs.Ytecpdngaagmgfaa
open Go.RowKit
set_option maxHeartbeats 400000
set_option linter.unusedVariables false

theorem grown_alloc (W : World) (o : Obj) (r : Option Nat) : W.grownBy (W.alloc o) r := ⟨rfl, rfl, rfl, by simp, fun q hq _ => Below.heap_alloc W o q hq⟩
set_option maxHeartbeats 4000000 in
theorem s39 (v : Value) (s : Rd) (m : Int) (w : World) (hm : i64 m) (h : rds w v s) (hcap : ∀ j, j ≤ (rC m s).1 → j ≤ s.1.length + 1 → j * 8 ≤ 140737488355328) :
    Calls Try.prog 39 #[v, .int .i64 m] w fun e w' => ∃ u, e = .returned u ∧ argI w' w'.heap.size u (rL m s).1 ∧ (∀ g, u.ownBlock = some g → w.heap.size ≤ g) ∧ rds w' v (rL m s).2 ∧ w.grownBy w' (pblk v) := by
  have C := Lib.hid (s38 v s m w hm h)
  have hle := rC_le m s
  have hbad := rC_bad (m := m) (s := s)
  have hcl := rC_len m s
  have hblk := Lib.hid (rds_blk h)
  unfold rL
  obtain ⟨n, s1, hc⟩ : ∃ n s1, rC m s = (n, s1) := ⟨_, _, rfl⟩
  rw [hc] at C hle hbad hcl hcap ⊢
  simp only at C hle hbad hcl hcap ⊢
  obtain ⟨m1, m2⟩ := hm
  have hn : (n : Int) ≤ 9223372036854775807 := by omega
  have HCAP := Lib.hid hcap
  obtain ⟨R, hR⟩ : ∃ R, rLgo n [] s1 = R := ⟨_, rfl⟩
  rw [hR]
  have HR0 := Lib.hid hR
  have HR1 : Hid (s1.2 ≠ 0 → R = ([], s1)) := Lib.hid (fun h0 => by rw [← hR, hbad h0]; rfl)
  have HCL := Lib.hid hcl
  obtain ⟨i0, hi, hz0', hz1, hz2⟩ := info_parts infoI
  clear hc h hle hbad hcap hR hcl
  go_enter Try.func39, Try.ntmps39
  go_wp2_with (go_at_call 38; fail)
  (with_reducible refine C.out.mono ?_)
  rintro e1 w1 ⟨rfl, hr, hg⟩
  clear C
  have hg0 := grown_both hg (grown_alloc w1 (Obj.cells #[] 3) (pblk v))
  have hr0 : rds (w1.alloc (Obj.cells #[] 3)) v s1 := rds_keep hr (grown_alloc w1 (Obj.cells #[] 3) none) (fun p hp e => by cases e)
  have ho0 : (w1.alloc (Obj.cells #[] 3)).ownsRow w.heap.size 3 1 (.slice (some ⟨w1.heap.size, 0, none⟩) 0 0) 0 (cellsI []) := World.ownsRow_lit w1 #[] 0 hg.size (by unfold maxLen; omega) (by simp)
  clear hr hg
  go_wp2
  go_loopw [6, 7] (fun lv i W => ∃ (k : Nat) (acc : List Int) (st : Rd), k ≤ n ∧ i = .int .i64 (k : Int) ∧ Hid (st.2 = 0 → rLgo (n - k) acc st = R) ∧ Hid (st.2 ≠ 0 → R = ([], st)) ∧ Hid (acc.length = k) ∧ Hid (st.2 = 0 → acc.length + st.1.length ≤ s.1.length) ∧ W.ownsRow w.heap.size 3 1 lv acc.length (cellsI acc) ∧ rds W v st ∧ w.grownBy W (pblk v)) (fun _ i _ => (n - (intOf i).toNat))
  case atStart => exact ⟨0, [], s1, by omega, rfl, Lib.hid (fun _ => HR0.out), HR1, Lib.hid rfl, Lib.hid (fun _ => by simpa using HCL.out), ho0, hr0, hg0⟩
  case round =>
    clear hr0 hg0 ho0 HCL HR0 HR1
    obtain ⟨k, acc, st, hk, rfl, hgo, hbd, hak, hal, ho, hr, hg⟩ := hrel
    have HO := Lib.hid ho
    have HG := Lib.hid hg
    by_cases hs0 : st.2 = 0
    · have G := Lib.hid (fun W hW => s42b v st W true (decide_eq_true hs0) hW)
      by_cases hlt : k < n
      · have hgo1 := hgo.out hs0
        have hal1 := hal.out hs0
        have HST := Lib.hid (rLgo_step (acc := acc) (st := st) (show n - k = (n - (k + 1)) + 1 by omega))
        have I := Lib.hid (fun W hW => s35 v st W hW)
        have hrl := rU_len st
        have hxb := rI_bd st
        obtain ⟨x, st', hx⟩ : ∃ x st', rI st = (x, st') := ⟨_, _, rfl⟩
        have hst' : (rU st).2 = st' := by have := congrArg Prod.snd hx; exact this
        rw [hst'] at hrl
        rw [hx] at HST I hxb
        simp only at HST I hxb
        have HN : Hid (st'.2 = 0 → rLgo (n - (k + 1)) (acc ++ [x]) st' = R) := Lib.hid (fun h0 => by rw [← HST.out.2 h0]; exact hgo1)
        have HB : Hid (st'.2 ≠ 0 → R = ([], st')) := Lib.hid (fun h0 => by rw [← HST.out.1 h0]; exact hgo1.symm)
        have HL : Hid (st'.2 = 0 → (acc ++ [x]).length + st'.1.length ≤ s.1.length) := Lib.hid (fun h0 => by have := hrl.2 h0; simp; omega)
        have hcp := HCAP.out (acc.length + 1) (by have := hak.out; omega) (by omega)
        have kk : IntKind.i64.wrap ((k : Int) + 1) = (k : Int) + 1 := IntWalk.i64_in _ (by omega)
        have hb8 : (acc.length + 1) * 8 ≤ 140737488355328 := by omega
        have HR := Lib.hid hr
        clear hrl HST hr hx hst' ho hg hgo1 hal1 hgo hbd hal hs0
        go_wp2_with (go_at_call 42; fail)
        (with_reducible refine (G.out _ HR.out).mono ?_)
        rintro e1 w2 ⟨rfl, q1, rfl⟩
        clear G
        go_wp2_with (go_at_call 35; fail)
        (with_reducible refine (I.out _ (rds_drew HR.out q1)).mono ?_)
        rintro e1 w2 ⟨rfl, hr2, hg2⟩
        have ho2 : w2.ownsRow w.heap.size 3 1 u6 acc.length (cellsI acc) := World.ownsRow.kept (w := wr.drewN q1) HO.out hg2 (by
          cases hb : u6.ownBlock with
          | none => exact Or.inl rfl
          | some g =>
            refine Or.inr (fun e => ?_)
            have h1 := (HO.out.lt g hb).1
            have h2 := hblk.out g e.symm
            omega)
        have hg3 := grown_both HG.out (grown_both (grown_drew wr q1 _) hg2)
        have HR2 := Lib.hid hr2
        have hz := hg3.size
        clear hr2 hg2 HO HG I HR
        go_wp2_with (at_builtin; refine wpList_append_own _ rfl _ _ 23 rfl w.heap.size 3 i0 (.int .i64 0) 1 8 Try.underlying23 hi hz0' hz1 hz2 rfl (by decide) _ _ _ rfl (ho2.alloc _) ⟨w2.heap.size, 0, none⟩ 1 1 [.int .i64 x] rfl rfl ?c1 ?c2 ?c3 ?c4 ?c5 ?_)
        case c1 =>
          intro j u hj
          match j, hj with
          | 0, hj => simp at hj; subst hj; simp [Addr.add]
        case c2 => intro u hu; simp at hu; subst hu; rfl
        case c3 => unfold maxLen; omega
        case c4 => exact hb8
        case c5 => simp; omega
        intro v' w3 ho3 hgr _
        have hown : ∀ g, u6.ownBlock = some g → w.heap.size ≤ g := fun g e => (ho2.lt g e).1
        have hg4 : w2.grownBy w3 u6.ownBlock := ⟨hgr.os, hgr.tape, hgr.output, Nat.le_trans (by simp) hgr.size, fun q hq hne => (hgr.block q (by simp; omega) hne).trans (Below.heap_alloc w2 _ q hq)⟩
        have hr3 : rds w3 v st' := rds_keep HR2.out hg4 (fun p hp e => by
          have h1 := hblk.out p hp
          have h2 := hown p e.symm
          omega)
        have hg5 := grown_new hg3 hg4 hown
        have ho4 : w3.ownsRow w.heap.size 3 1 v' (acc ++ [x]).length (cellsI (acc ++ [x])) := by
          rw [cellsI_append, List.length_append]
          exact ho3
        clear ho3 hgr ho2 hg3 hg4 HR2
        go_wp2
        go_roundw
        case rel => exact ⟨k + 1, acc ++ [x], st', by omega, by simp, HN, HB, Lib.hid (by rw [List.length_append, hak.out]; rfl), HL, ho4, hr3, hg5⟩
        case measure => simp [intOf]; omega
      · obtain rfl : n = k := by omega
        have hRR : R = (acc, st) := by
          have := hgo.out hs0
          rw [Nat.sub_self] at this
          exact this.symm
        have HF := Lib.hid (And.intro (argI_own ho) (And.intro hr hg))
        have HN := Lib.hid (fun g e => (ho.lt g e).1)
        have HRR := Lib.hid hRR
        clear hRR ho hr hg hgo hbd hal hs0 hlt
        go_wp2_with (go_at_call 42; fail)
        (with_reducible refine (G.out _ HF.out.2.1).mono ?_)
        rintro e1 w2 ⟨rfl, q1, rfl⟩
        go_wp2
        go_ret
        exact ⟨_, rfl, by rw [HRR.out]; exact HF.out.1, HN.out, by rw [HRR.out]; exact HF.out.2.1, grown_both HF.out.2.2 (grown_drew _ _ _)⟩
    · have G := Lib.hid (fun W hW => s42b v st W false (decide_eq_false hs0) hW)
      have HRR := Lib.hid (hbd.out hs0)
      have HF := Lib.hid (And.intro hr hg)
      by_cases hlt : k < n
      · clear ho hr hg hgo hbd hal hs0
        go_wp2_with (go_at_call 42; fail)
        (with_reducible refine (G.out _ HF.out.1).mono ?_)
        rintro e1 w2 ⟨rfl, q1, rfl⟩
        go_wp2_with (go_at_call 42; fail)
        (with_reducible refine (G.out _ (rds_drew HF.out.1 q1)).mono ?_)
        rintro e1 w2 ⟨rfl, q2, rfl⟩
        go_wp2
        go_ret
        exact ⟨_, rfl, by rw [HRR.out]; exact argI_nil _ _, (fun g e => by cases e), by rw [HRR.out]; exact HF.out.1, grown_both HF.out.2 (grown_drew _ _ _)⟩
      · obtain rfl : n = k := by omega
        clear ho hr hg hgo hbd hal hs0 hlt
        go_wp2_with (go_at_call 42; fail)
        (with_reducible refine (G.out _ HF.out.1).mono ?_)
        rintro e1 w2 ⟨rfl, q1, rfl⟩
        go_wp2
        go_ret
        exact ⟨_, rfl, by rw [HRR.out]; exact argI_nil _ _, (fun g e => by cases e), by rw [HRR.out]; exact HF.out.1, grown_both HF.out.2 (grown_drew _ _ _)⟩

end Go.Proofs.Ytecpdngaagmgfaa
