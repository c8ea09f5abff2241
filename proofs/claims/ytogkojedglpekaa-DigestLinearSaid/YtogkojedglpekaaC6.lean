import Derived.Test.YtogkojedglpekaaProg
import Derived.WalkKit
import Derived.WalkLawsBesides
import Derived.Outline
import Derived.Lib.Walk
import Derived.Deep.QuietTactic
import Derived.BigQuiet
import Derived.RowKit3
import Derived.Deep.LoopGhost
import Derived.Laws.Rows
import Derived.Laws.Tables
import Derived.Laws.CopyOwn
import Derived.Lib.Hide
import Derived.Handy
import Derived.Deep.Onto
import Derived.WalkSpells
import Derived.Test.YtogkojedglpekaaA1
import Derived.Test.YtogkojedglpekaaA2
import Derived.Test.YtogkojedglpekaaA3
import Derived.Test.YtogkojedglpekaaB2
import Derived.Test.YtogkojedglpekaaB3
import Derived.Test.YtogkojedglpekaaC1
import Derived.Test.YtogkojedglpekaaC2
import Derived.Test.YtogkojedglpekaaC3
import Derived.Test.YtogkojedglpekaaC4
import Derived.Test.YtogkojedglpekaaC5
namespace Go.Proofs.Ytogkojedglpekaa
open Go.RowKit
set_option maxHeartbeats 400000
set_option linter.unusedVariables false

theorem rdr_made {W : World} {v : Value} {s : Rd} (h : rdr W v s) (h0 : s.2 = 0) : ∃ p e, v = .pointer (some ⟨p, 0, none⟩) ∧ (W.cell? ⟨p, 0, none⟩ = some (.string (mkS s.1)) ∧ W.cell? ⟨p, 1, none⟩ = some (.int .i64 e) ∧ W.cell? ⟨p, 2, none⟩ = some (.bool true)) ∧
    (W.frozen? ⟨p, 0, none⟩ = false ∧ W.frozen? ⟨p, 1, none⟩ = false) ∧ p < W.heap.size ∧ s.2 = e ∧ s.1.length ≤ 9000000000000000000 := by
  rcases h with ⟨rfl, h2⟩ | ⟨p, e, mk, rfl, c, z, hp, h2, hl⟩
  · rw [h2] at h0
    cases h0
  · cases mk
    · rw [h0] at h2
      cases h2
    · exact ⟨p, e, rfl, c, z, hp, h2, hl⟩
set_option maxHeartbeats 2000000 in
theorem e27 (v : Value) (s : Rd) (m : Int) (w : World) (hm : i64 m) (h : rdr w v s) : Calls Try.prog 27 #[v, .int .i64 m] w fun e w' => e = .returned (.string (mkS (rT m s).1)) ∧ rdr w' v (rT m s).2 ∧ w.grownBy w' (pblk v) := by
  have C := Lib.hid (e33 v s m w hm h)
  have hle := rC_le m s
  have hbad := rC_bad (m := m) (s := s)
  unfold rT
  obtain ⟨n, l, x, hc⟩ : ∃ n l x, rC m s = (n, (l, x)) := ⟨_, _, _, rfl⟩
  rw [hc] at C hle hbad ⊢
  simp only at C hle hbad ⊢
  obtain ⟨m1, m2⟩ := hm
  have hn : (n : Int) ≤ 9223372036854775807 := by omega
  clear hc h hle
  by_cases h0 : x = 0
  · subst h0
    rw [if_neg (by simp)]
    by_cases hs : l.length < n
    · rw [if_pos hs]
      have hlft : leftR (l, (0 : Int)) = l.length := rfl
      have hf : failR (l, (0 : Int)) 5 = (l, 5) := rfl
      have L := Lib.hid (fun W hW => e29 v (l, (0 : Int)) W hW)
      rw [hlft] at L
      have F := Lib.hid (fun W hW => e34 v (l, (0 : Int)) 5 W hW)
      rw [hf] at F
      have E := Lib.hid (fun W hW => e28 v (l, (5 : Int)) W hW)
      have hgt : (l.length : Int) < (n : Int) := by omega
      clear hlft hf hs hbad
      go_enter Try.func27, Try.ntmps27
      go_wp2_with (go_at_call 33; fail)
      (with_reducible refine C.out.mono ?_)
      rintro e1 w1 ⟨rfl, hr, hg⟩
      have HG := Lib.hid hg
      have HR := Lib.hid hr
      clear hr hg
      go_wp2_with (go_at_call 29; fail)
      (with_reducible refine (L.out _ HR.out).mono ?_)
      rintro e1 w2 ⟨rfl, rfl⟩
      go_wp2_with (go_at_call 34; fail)
      (with_reducible refine (F.out _ HR.out).mono ?_)
      rintro e1 w3 ⟨rfl, hr, hg⟩
      have HF := Lib.hid (And.intro hr (grown_both HG.out hg))
      clear hr hg
      go_wp2_with (go_at_call 28; fail)
      (with_reducible refine (E.out _ HF.out.1).mono ?_)
      rintro e1 w4 ⟨rfl, rfl⟩
      go_wp2
      go_ret
      exact ⟨rfl, HF.out⟩
    · rw [if_neg hs]
      have hlft : leftR (l, (0 : Int)) = l.length := rfl
      have L := Lib.hid (fun W hW => e29 v (l, (0 : Int)) W hW)
      rw [hlft] at L
      have E := Lib.hid (fun W hW => e28 v (l, (0 : Int)) W hW)
      have hgt := decide_eq_false (p := (l.length : Int) < (n : Int)) (by omega)
      have hgtn := decide_eq_false (p := l.length < n) hs
      have hnl : n ≤ l.length := by omega
      clear hlft hbad hs
      go_enter Try.func27, Try.ntmps27
      go_wp2_with (go_at_call 33; fail)
      (with_reducible refine C.out.mono ?_)
      rintro e1 w1 ⟨rfl, hr, hg⟩
      have HG := Lib.hid hg
      have HR := Lib.hid hr
      clear hg
      go_wp2_with (go_at_call 29; fail)
      (with_reducible refine (L.out _ HR.out).mono ?_)
      rintro e1 w2 ⟨rfl, rfl⟩
      go_wp2_with (go_at_call 28; fail)
      (with_reducible refine (E.out _ HR.out).mono ?_)
      rintro e1 w2 ⟨rfl, rfl⟩
      obtain ⟨p, e, rfl, ⟨a0, a1, a2⟩, ⟨y0, y1⟩, hp, hse, hl⟩ := rdr_made hr rfl
      simp only at hse
      subst hse
      have hz : (mkS l).size = l.length := rfl
      have HT := Lib.hid (mkS_take l n hnl)
      have HD := Lib.hid (mkS_drop l n)
      have hnl' : (n : Int) ≤ (l.length : Int) := by omega
      clear hr HR E L
      go_wp2
      go_ret
      refine ⟨by rw [← HT.out]; rfl, Or.inr ⟨p, 0, true, rfl, ⟨?_, ?_, ?_⟩, ⟨?_, ?_⟩, ?_, ?_, ?_⟩, grown_both HG.out (put_grown w1 p 0 _)⟩
      · rw [← HD.out]
        simp [go_sem, *]
      · simp [go_sem, *]
      · simp [go_sem, *]
      · simp [go_sem, *]
      · simp [go_sem, *]
      · simp [World.setCell]; omega
      · rfl
      · simp only [List.length_drop]
        omega
  · rw [if_pos (by simpa using h0)]
    have hn0 : n = 0 := hbad h0
    subst hn0
    have hlft : leftR (l, x) = 0 := by unfold leftR; rw [if_neg h0]
    have L := Lib.hid (fun W hW => e29 v (l, x) W hW)
    rw [hlft] at L
    have E := Lib.hid (fun W hW => e28 v (l, x) W hW)
    have h1 : (x == 0) = false := by simp [h0]
    have h2 : (x != 0) = true := by simp [h0]
    clear hlft hbad h0
    go_enter Try.func27, Try.ntmps27
    go_wp2_with (go_at_call 33; fail)
    (with_reducible refine C.out.mono ?_)
    rintro e1 w1 ⟨rfl, hr, hg⟩
    have HG := Lib.hid hg
    have HR := Lib.hid hr
    clear hr hg
    go_wp2_with (go_at_call 29; fail)
    (with_reducible refine (L.out _ HR.out).mono ?_)
    rintro e1 w2 ⟨rfl, rfl⟩
    go_wp2_with (go_at_call 28; fail)
    (with_reducible refine (E.out _ HR.out).mono ?_)
    rintro e1 w2 ⟨rfl, rfl⟩
    go_wp2
    go_ret
    exact ⟨rfl, HR.out, HG.out⟩

end Go.Proofs.Ytogkojedglpekaa
