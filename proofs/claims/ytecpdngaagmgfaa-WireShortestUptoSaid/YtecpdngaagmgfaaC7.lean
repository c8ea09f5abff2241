import Derived.Test.YtecpdngaagmgfaaProg
import Derived.WalkKit
import Derived.WalkLawsBesides
import Derived.Outline
import Derived.Lib.Walk
import Derived.Deep.QuietTactic
import Derived.BigQuiet
import Derived.RowKit3
import Derived.Deep.LoopGhost
import Derived.Great.Walk
import Derived.Great.BuildSlice
import Derived.Laws.Rows
import Derived.Laws.Tables
import Derived.Laws.CopyOwn
import Derived.Lib.Hide
import Derived.Handy
import Derived.Deep.Onto
import Derived.WalkSpells
import Derived.Test.YtecpdngaagmgfaaA1
import Derived.Test.YtecpdngaagmgfaaA2
import Derived.Test.YtecpdngaagmgfaaA3
import Derived.Test.YtecpdngaagmgfaaB2
import Derived.Test.YtecpdngaagmgfaaB3
import Derived.Test.YtecpdngaagmgfaaC1
import Derived.Test.YtecpdngaagmgfaaC2
import Derived.Test.YtecpdngaagmgfaaC3
import Derived.Test.YtecpdngaagmgfaaC4
import Derived.Test.YtecpdngaagmgfaaC5
import Derived.Test.YtecpdngaagmgfaaC6
namespace Go.Proofs.Ytecpdngaagmgfaa
open Go.RowKit
set_option maxHeartbeats 400000
set_option linter.unusedVariables false

def cellsI (l : List Int) : List Value := l.map fun z => .int .i64 z
theorem cellsI_at (l : List Int) (k : Nat) (h : k < l.length) : (cellsI l)[k]? = some (.int .i64 (l.getD k 0)) := by
  unfold cellsI
  rw [List.getElem?_map, List.getD_eq_getElem?_getD, List.getElem?_eq_getElem h]
  rfl
theorem cellsI_append (a b : List Int) : cellsI (a ++ b) = cellsI a ++ cellsI b := List.map_append
theorem infoI : (Try.prog.info? 3).map (fun i => (i.zero, i.size, i.bytes)) = some (some (.int .i64 0), 1, 8) := by kernel_rfl
theorem row_form {W : World} {base n size : Nat} {e : TypeId} {v : Value} {xs : List Value} (h : W.ownsRow base e size v n xs) : ∃ ao cap, v = .slice ao n cap ∧ (0 < n → ∃ g, ao = some ⟨g, 0, none⟩) ∧ n ≤ cap ∧ cap ≤ maxLen := by
  obtain ⟨_, hc⟩ := h
  rcases hc with ⟨rfl, rfl⟩ | ⟨g, cap, cur, rfl, _, _, h1, h2, _⟩
  · exact ⟨none, 0, rfl, fun h => absurd h (Nat.lt_irrefl 0), Nat.le_refl _, by unfold maxLen; omega⟩
  · exact ⟨some ⟨g, 0, none⟩, cap, rfl, fun _ => ⟨g, rfl⟩, h1, h2⟩
theorem argI_own {W : World} {base : Nat} {v : Value} {l : List Int} (h : W.ownsRow base 3 1 v l.length (cellsI l)) : argI W W.heap.size v l := by
  obtain ⟨ao, cap, rfl, hao, _, _⟩ := row_form h
  refine ⟨ao, cap, rfl, fun hl => ?_⟩
  obtain ⟨g, rfl⟩ := hao hl
  refine ⟨g, 0, rfl, (h.lt g rfl).2, fun k hk => ?_⟩
  rw [Nat.zero_add]
  exact (h.cellAt k (by omega)).trans (cellsI_at l k hk)
theorem argI_nil (W : World) (B : Nat) : argI W B (.slice none 0 0) [] := ⟨none, 0, rfl, fun h => absurd h (Nat.lt_irrefl 0)⟩
/-- what a step writes that writes to a row of one's own alone. -/
theorem grown_new {a b c : World} {r q : Option Nat} (h : a.grownBy b r) (k : b.grownBy c q) (hq : ∀ g, q = some g → a.heap.size ≤ g) : a.grownBy c r :=
  ⟨k.os.trans h.os, k.tape.trans h.tape, k.output.trans h.output, Nat.le_trans h.size k.size, fun i hi hn => (k.block i (Nat.lt_of_lt_of_le hi h.size) (fun e => by have := hq i e.symm; omega)).trans (h.block i hi hn)⟩
theorem rdr_keep {W W' : World} {v : Value} {s : Rd} {q : Option Nat} (h : rdr W v s) (k : W.grownBy W' q) (hq : ∀ p, pblk v = some p → some p ≠ q) : rdr W' v s := by
  rcases h with h | ⟨p, e, mk, rfl, ⟨c0, c1, c2⟩, ⟨z0, z1⟩, hp, h2, h3⟩
  · exact Or.inl h
  · have hb := k.block p hp (hq p rfl)
    exact Or.inr ⟨p, e, mk, rfl, ⟨(World.cell?_of_block (a := ⟨p, 0, none⟩) hb).trans c0, (World.cell?_of_block (a := ⟨p, 1, none⟩) hb).trans c1, (World.cell?_of_block (a := ⟨p, 2, none⟩) hb).trans c2⟩,
      ⟨(World.frozen?_of_block (a := ⟨p, 0, none⟩) hb).trans z0, (World.frozen?_of_block (a := ⟨p, 1, none⟩) hb).trans z1⟩, Nat.lt_of_lt_of_le hp k.size, h2, h3⟩
theorem rdr_blk {W : World} {v : Value} {s : Rd} (h : rdr W v s) : ∀ p, pblk v = some p → p < W.heap.size := by
  intro p hp
  rcases h with ⟨rfl, _⟩ | ⟨p', e, mk, rfl, _, _, hp', _⟩
  · cases hp
  · simp only [pblk, Option.some.injEq] at hp
    subst hp
    exact hp'
theorem rLgo_step {j i : Nat} {acc : List Int} {st : Rd} (h : j = i + 1) : ((rI st).2.2 ≠ 0 → rLgo j acc st = ([], (rI st).2)) ∧ ((rI st).2.2 = 0 → rLgo j acc st = rLgo i (acc ++ [(rI st).1]) (rI st).2) := by
  subst h
  constructor
  · intro h0
    conv => lhs; unfold rLgo
    rw [if_pos h0]
  · intro h0
    conv => lhs; unfold rLgo
    rw [if_neg (by simpa using h0)]
set_option maxHeartbeats 4000000 in
theorem e29 (v : Value) (s : Rd) (m : Int) (w : World) (hm : i64 m) (h : rdr w v s) (hcap : ∀ j, j ≤ (rC m s).1 → j ≤ s.1.length → j * 8 ≤ 140737488355328) :
    Calls Try.prog 29 #[v, .int .i64 m] w fun e w' => ∃ u, e = .returned u ∧ argI w' w'.heap.size u (rL m s).1 ∧ (∀ g, u.ownBlock = some g → w.heap.size ≤ g) ∧ rdr w' v (rL m s).2 ∧ w.grownBy w' (pblk v) := by
  have C := Lib.hid (e37 v s m w hm h)
  have hle := rC_le m s
  have hbad := rC_bad (m := m) (s := s)
  have hcl := rC_len m s
  have hblk := Lib.hid (rdr_blk h)
  unfold rL
  obtain ⟨n, s1, hc⟩ : ∃ n s1, rC m s = (n, s1) := ⟨_, _, rfl⟩
  rw [hc] at C hle hbad hcl hcap ⊢
  simp only at C hle hbad hcl hcap ⊢
  obtain ⟨m1, m2⟩ := hm
  have hn : (n : Int) ≤ 9223372036854775807 := by omega
  have HBAD := Lib.hid hbad
  have HCAP := Lib.hid hcap
  obtain ⟨R, hR⟩ : ∃ R, rLgo n [] s1 = R := ⟨_, rfl⟩
  rw [hR]
  have HR0 := Lib.hid hR
  obtain ⟨i0, hi, hz0', hz1, hz2⟩ := info_parts infoI
  clear hc h hle hbad hcap hR
  go_enter Try.func29, Try.ntmps29
  go_wp2_with (go_at_call 37; fail)
  (with_reducible refine C.out.mono ?_)
  rintro e1 w1 ⟨rfl, hr, hg⟩
  clear C
  go_wp2
  go_loopw [5, 10] (fun lv i W => ∃ (k : Nat) (acc : List Int) (st : Rd), k ≤ n ∧ i = .int .i64 (k : Int) ∧ Hid (rLgo (n - k) acc st = R) ∧ Hid (acc.length = k) ∧ acc.length + st.1.length ≤ s.1.length ∧ W.ownsRow w.heap.size 3 1 lv acc.length (cellsI acc) ∧ rdr W v st ∧ w.grownBy W (pblk v)) (fun _ i _ => (n - (intOf i).toNat))
  case atStart => exact ⟨0, [], s1, by omega, rfl, HR0, Lib.hid rfl, by simpa using hcl, World.ownsRow_nil _ _ _ _, hr, hg⟩
  case round =>
    clear hr hg hcl
    obtain ⟨k, acc, st, hk, rfl, hgo, hak, hal, ho, hr, hg⟩ := hrel
    by_cases hlt : k < n
    · have HST := Lib.hid (rLgo_step (acc := acc) (st := st) (show n - k = (n - (k + 1)) + 1 by omega))
      have I := Lib.hid (e30 v st wr hr)
      have hrl := rU_len st
      have hxb := rI_bd st
      obtain ⟨x, st', hx⟩ : ∃ x st', rI st = (x, st') := ⟨_, _, rfl⟩
      have hst' : (rU st).2 = st' := by have := congrArg Prod.snd hx; exact this
      rw [hst'] at hrl
      rw [hx] at HST I hxb
      simp only at HST I hxb
      have HO := Lib.hid ho
      have HG := Lib.hid hg
      clear hr hst' hx ho hg
      by_cases h0 : st'.2 = 0
      · have HN := Lib.hid (HST.out.2 h0)
        have hlt2 := hrl.2 h0
        have E := Lib.hid (fun W hW => e23 v st' W hW)
        rw [h0] at E
        have hcp := HCAP.out (acc.length + 1) (by have := hak.out; omega) (by omega)
        have kk : IntKind.i64.wrap ((k : Int) + 1) = (k : Int) + 1 := IntWalk.i64_in _ (by omega)
        have hb8 : (acc.length + 1) * 8 ≤ 140737488355328 := by omega
        clear hrl h0 HST
        go_wp2_with (go_at_call 30; fail)
        (with_reducible refine I.out.mono ?_)
        rintro e1 w2 ⟨rfl, hr2, hg2⟩
        have ho2 : w2.ownsRow w.heap.size 3 1 u5 acc.length (cellsI acc) := HO.out.kept hg2 (by
          cases hb : u5.ownBlock with
          | none => exact Or.inl rfl
          | some g =>
            refine Or.inr (fun e => ?_)
            have h1 := (HO.out.lt g hb).1
            have h2 := hblk.out g e.symm
            omega)
        have hg3 := grown_both HG.out hg2
        have HR2 := Lib.hid hr2
        have hz := hg3.size
        clear hr2 hg2 HO HG I
        go_wp2_with (go_at_call 23; fail)
        (with_reducible refine (E.out _ HR2.out).mono ?_)
        rintro e1 w4 ⟨rfl, rfl⟩
        go_wp2_with (at_builtin; refine wpList_append_own _ rfl _ _ 23 rfl w.heap.size 3 i0 (.int .i64 0) 1 8 Try.underlying23 hi hz0' hz1 hz2 rfl (by decide) _ _ _ rfl (ho2.alloc _) ⟨w2.heap.size, 0, none⟩ 1 1 [.int .i64 x] rfl rfl ?c1 ?c2 ?c3 ?c4 ?c5 ?_)
        case c1 =>
          intro j u hj
          match j, hj with
          | 0, hj => simp at hj; subst hj; simp [Addr.add]
        case c2 => intro u hu; simp at hu; subst hu; rfl
        case c3 => unfold maxLen; omega
        case c4 => exact hb8
        case c5 => simp; omega
        intro v' w3 ho3 hgr _
        have hown : ∀ g, u5.ownBlock = some g → w.heap.size ≤ g := fun g e => (ho2.lt g e).1
        have hg4 : w2.grownBy w3 u5.ownBlock := ⟨hgr.os, hgr.tape, hgr.output, Nat.le_trans (by simp) hgr.size, fun q hq hne => (hgr.block q (by simp; omega) hne).trans (Below.heap_alloc w2 _ q hq)⟩
        have hr3 : rdr w3 v st' := rdr_keep HR2.out hg4 (fun p hp e => by
          have h1 := hblk.out p hp
          have h2 := hown p e.symm
          omega)
        have hg5 := grown_new hg3 hg4 hown
        have ho4 : w3.ownsRow w.heap.size 3 1 v' (acc ++ [x]).length (cellsI (acc ++ [x])) := by
          rw [cellsI_append, List.length_append]
          exact ho3
        clear ho3 hgr ho2 hg3 hg4 HR2 E
        go_wp2
        go_roundw
        case rel => exact ⟨k + 1, acc ++ [x], st', by omega, by simp, Lib.hid (by rw [← HN.out]; exact hgo.out), Lib.hid (by rw [List.length_append, hak.out]; rfl), by simp; omega, ho4, hr3, hg5⟩
        case measure => simp [intOf]; omega
      · have HN := Lib.hid (HST.out.1 h0)
        have E := Lib.hid (fun W hW => e23 v st' W hW)
        have h1 : (st'.2 == 0) = false := by simp [h0]
        have h2 : (st'.2 != 0) = true := by simp [h0]
        obtain ⟨z, hzz⟩ : ∃ z, st'.2 = z := ⟨_, rfl⟩
        rw [hzz] at E h1 h2
        have HRR : Hid (R = ([], st')) := Lib.hid (by rw [← hgo.out]; exact HN.out)
        clear h0 hrl HST hzz
        go_wp2_with (go_at_call 30; fail)
        (with_reducible refine I.out.mono ?_)
        rintro e1 w2 ⟨rfl, hr2, hg2⟩
        have hg3 := grown_both HG.out hg2
        have HF := Lib.hid (And.intro hr2 hg3)
        clear hr2 hg2 hg3
        go_wp2_with (go_at_call 23; fail)
        (with_reducible refine (E.out _ HF.out.1).mono ?_)
        rintro e1 w4 ⟨rfl, rfl⟩
        go_wp2
        go_ret
        exact ⟨_, rfl, by rw [HRR.out]; exact argI_nil _ _, (fun g e => by cases e), by rw [HRR.out]; exact HF.out.1, HF.out.2⟩
    · obtain rfl : n = k := by omega
      have hRR : R = (acc, st) := by
        have := hgo.out
        rw [Nat.sub_self] at this
        exact this.symm
      have HF := Lib.hid (And.intro (argI_own ho) (And.intro hr hg))
      have HN := Lib.hid (fun g e => (ho.lt g e).1)
      have HRR := Lib.hid hRR
      clear hRR ho hr hg
      go_wp2
      go_ret
      exact ⟨_, rfl, by rw [HRR.out]; exact HF.out.1, HN.out, by rw [HRR.out]; exact HF.out.2.1, HF.out.2.2⟩

end Go.Proofs.Ytecpdngaagmgfaa
