import Derived.Test.YtnjkbmkbifbgkaaProg
import Derived.WalkKit
import Derived.WalkLawsBesides
import Derived.Outline
import Derived.Lib.Walk
import Derived.Deep.QuietTactic
import Derived.BigQuiet
import Derived.RowKit3
import Derived.Deep.LoopGhost
import Derived.Laws.Rows
import Derived.Laws.Tables
import Derived.Laws.CopyOwn
import Derived.Lib.Hide
import Derived.Handy
import Derived.Deep.Onto
import Derived.Test.YtnjkbmkbifbgkaaS17
import Derived.Test.YtnjkbmkbifbgkaaS19
import Derived.Test.YtnjkbmkbifbgkaaK3
namespace Go.Proofs.Ytnjkbmkbifbgkaa
open Go.RowKit
set_option maxHeartbeats 400000
set_option linter.unusedVariables false

def cellsT (f : Nat → Int) (k : Nat) : List Value := (List.range k).map fun i => .int .i64 (f i)
theorem cellsT_len (f : Nat → Int) (k : Nat) : (cellsT f k).length = k := by unfold cellsT; simp
theorem cellsT_at (f : Nat → Int) (k j : Nat) (h : j < k) : (cellsT f k)[j]? = some (.int .i64 (f j)) := by unfold cellsT; simp [h]
theorem cellsT_succ (f : Nat → Int) (k : Nat) : cellsT f (k + 1) = cellsT f k ++ [.int .i64 (f k)] := by unfold cellsT; rw [List.range_succ, List.map_append]; rfl
theorem argT_own {W : World} {B k : Nat} {v : Value} {f : Nat → Int} (h : W.ownsRow B 3 1 v k (cellsT f k)) : argT W W.heap.size v k f := by
  rcases h.2 with ⟨rfl, h0⟩ | ⟨g, cap, cur, rfl, hb, hg, _⟩
  · exact ⟨none, 0, by rw [h0], fun hl => absurd hl (by omega)⟩
  · refine ⟨_, cap, rfl, fun hl => ⟨g, 0, rfl, (Array.getElem?_eq_some_iff.1 hg).1, fun j hj => ?_⟩⟩
    have h1 := h.cellAt j (by omega)
    rw [cellsT_at f k j hj] at h1
    rw [Nat.zero_add]
    exact h1

set_option maxHeartbeats 8000000 in
theorem s22 (v : Value) (L : KL) (n : Int) (w : World) (h : argK w w.heap.size v L) :
    Calls Try.prog 22 #[v, .int .i64 n] w fun e w' => ∃ u, e = .returned (.tuple #[u, .int .i64 (tabE L n)]) ∧ argT w' w'.heap.size u (tabN L n) (tabV L n) ∧ Below w.heap.size w w' := by
  have CK := Lib.hid (s12 v L w h)
  have CA := Lib.hid (fun x W (hW : Below w.heap.size w W) => s17 v L x W (h.up hW hW.size))
  obtain ⟨ao, cap, rfl, h⟩ := h
  clear h
  obtain ⟨l, hl⟩ : ∃ l, L.length = l := ⟨_, rfl⟩
  obtain ⟨E, hE⟩ : ∃ E, chk L = E := ⟨_, rfl⟩
  rw [hl, hE] at CK
  rw [hl] at CA ⊢
  by_cases h0 : E = 0
  · subst h0
    by_cases ho : n < 2 ∨ 256 < n
    · rw [tabN_out ho, tabE_out hE ho]
      clear hl hE CA
      by_cases h1 : n < 2
      · have d1 := decide_eq_true h1
        clear ho
        go_enter Try.func22, Try.ntmps22
        go_wp2_with (go_at_call 12; fail)
        (with_reducible refine CK.out.mono ?_)
        rintro e w1 ⟨rfl, hg⟩
        go_wp2
        exact bodyPost_ret (v := .tuple #[.slice none 0 0, .int .i64 2]) (by simp [results, Try.results22, go_sem, *]) rfl ⟨_, rfl, argT_nil _ _ _, hg⟩
      · have d1 := decide_eq_false h1
        have h2 : 256 < n := by omega
        have d2 := decide_eq_true h2
        clear ho
        go_enter Try.func22, Try.ntmps22
        go_wp2_with (go_at_call 12; fail)
        (with_reducible refine CK.out.mono ?_)
        rintro e w1 ⟨rfl, hg⟩
        go_wp2
        exact bodyPost_ret (v := .tuple #[.slice none 0 0, .int .i64 2]) (by simp [results, Try.results22, go_sem, *]) rfl ⟨_, rfl, argT_nil _ _ _, hg⟩
    · obtain ⟨m, hm⟩ : ∃ m : Nat, n = (m : Int) := ⟨n.toNat, by omega⟩
      subst hm
      have m2 : 2 ≤ m := by omega
      have m3 : m ≤ 256 := by omega
      have TN := tabN_in hE m2 m3
      have TE := tabE_in hE m2 m3
      rw [TN, TE]
      have TV := Lib.hid (fun k => (show tabV L (m : Int) k = atF L (rq ((k : Int) * 65535) ((m : Int) - 1)) from rfl))
      generalize tabV L (m : Int) = f at *
      have CD := Lib.hid (fun (k : Nat) (hk : k < m) w => (show Calls Try.prog 31 #[.int .i64 ((k : Int) * 65535), .int .i64 ((m : Int) - 1)] w fun e w' => e = .returned (.int .i64 (rq ((k : Int) * 65535) ((m : Int) - 1))) ∧ ∃ q, w' = w.drewN q from by
        rw [← dvi_rq (by omega) (by omega) (by omega)]
        exact t15 _ _ w (by omega) (by omega) (by omega) (by omega)))
      have d1 : decide ((m : Int) < 2) = false := decide_eq_false (by omega)
      have d2 : decide ((256 : Int) < (m : Int)) = false := decide_eq_false (by omega)
      have p1 : ¬ (m : Int) < 2 := by omega
      have p2 : ¬ (256 : Int) < (m : Int) := by omega
      clear TN TE hl hE ho
      obtain ⟨i0, hi, hz0', hz1, hz2⟩ := info_parts info3
      go_enter Try.func22, Try.ntmps22
      go_wp2_with (go_at_call 12; fail)
      (with_reducible refine CK.out.mono ?_)
      rintro e w1 ⟨rfl, hg⟩
      go_wp2
      go_loopw [7, 8] (fun s i wr => ∃ k : Nat, k ≤ m ∧ i = .int .i64 (k : Int) ∧ wr.ownsRow w.heap.size 3 1 s k (cellsT f k) ∧ Below w.heap.size w wr) (fun _ i _ => (m - (intOf i).toNat))
      case atStart => exact ⟨0, by omega, rfl, World.ownsRow_lit (base := w.heap.size) (e := 3) (size := 1) w1 #[] 0 hg.size (by unfold maxLen; omega) rfl, bel_al hg _⟩
      case round =>
        obtain ⟨k, hk, rfl, hown, hnx⟩ := hrel
        clear hg CK
        by_cases hlt : k < m
        · have kk : IntKind.i64.wrap ((k : Int) + 1) = (k : Int) + 1 := IntWalk.i64_in _ (by omega)
          have E3 := Lib.hid (cellsT_succ f k)
          have hkm : (k : Int) < (m : Int) := by omega
          have cd := CD.out k hlt
          have tv := TV.out k
          have ca := CA.out (rq ((k : Int) * 65535) ((m : Int) - 1))
          rw [← tv] at ca
          generalize rq ((k : Int) * 65535) ((m : Int) - 1) = q at *
          generalize f k = fk at *
          have CDk := Lib.hid cd
          have CAk := Lib.hid ca
          clear cd ca tv CD CA TV
          go_wp2_with (first | (go_at_call 31; (with_reducible refine (CDk.out _).mono ?_); rintro e w4 ⟨rfl, nq, rfl⟩) | (go_at_call 17; fail))
          have hnx4 := bel_dr hnx nq
          (with_reducible refine (CAk.out _ hnx4).mono ?_)
          rintro e w5 ⟨rfl, hg⟩
          have hown5 := ownsRow_below hown ((bel_trans (bel_drewN nq) hg) : Below wr.heap.size wr w5)
          have hnx5 := bel_trans hnx4 hg
          clear hg hnx4 hown
          go_wp2_with (at_builtin; refine wpList_append_own _ rfl _ _ 32 rfl w.heap.size 3 i0 (.int .i64 0) 1 8 Try.underlying32 hi hz0' hz1 hz2 rfl (by decide) _ _ _ rfl (hown5.alloc _) ⟨w5.heap.size, 0, none⟩ 1 1 [.int .i64 fk] rfl rfl ?c1 ?c2 ?c3 ?c4 ?c5 ?_)
          case c1 =>
            intro j u hj
            match j, hj with
            | 0, hj => simp at hj; subst hj; simp [Addr.add]
          case c2 => intro u hu; simp at hu; subst hu; rfl
          case c3 => unfold maxLen; omega
          case c4 => omega
          case c5 => have := hnx5.size; simp; omega
          intro v' w6 hown' hgrow _
          have hnx6 : Below w.heap.size w w6 := row_append hnx5 hown5 hnx5.size hgrow
          rw [← E3.out] at hown'
          clear hgrow hown5 hnx5
          go_wp2
          go_roundw
          case rel => exact ⟨k + 1, by omega, by simp, hown', hnx6⟩
          case measure => simp [intOf]; omega
        · obtain rfl : k = m := by omega
          have hA := Lib.hid (argT_own hown)
          clear hown CD CA TV
          go_wp2
          exact bodyPost_ret (v := .tuple #[_, .int .i64 0]) (by simp [results, Try.results22, go_sem, *]) rfl ⟨_, rfl, hA.out, hnx⟩
  · have E1 := tabE_bad (L := L) (n := n) (by rw [hE]; exact h0)
    have E2 := tabN_bad (L := L) (n := n) (by rw [hE]; exact h0)
    rw [hE] at E1
    rw [E1, E2]
    have nE : (E == 0) = false := by simpa using h0
    clear hE E1 E2 CA
    go_enter Try.func22, Try.ntmps22
    go_wp2_with (go_at_call 12; fail)
    (with_reducible refine CK.out.mono ?_)
    rintro e w1 ⟨rfl, hg⟩
    go_wp2
    exact bodyPost_ret (v := .tuple #[.slice none 0 0, .int .i64 (E)]) (by simp [results, Try.results22, go_sem, *]) rfl ⟨_, rfl, argT_nil _ _ _, hg⟩

end Go.Proofs.Ytnjkbmkbifbgkaa
