import Derived.Test.YtnjkbmkbifbgkaaProg
import Derived.WalkKit
import Derived.WalkLawsBesides
import Derived.Outline
import Derived.Lib.Walk
import Derived.Deep.QuietTactic
import Derived.BigQuiet
import Derived.RowKit3
import Derived.Deep.LoopGhost
import Derived.Laws.Rows
import Derived.Laws.Tables
import Derived.Laws.CopyOwn
import Derived.Lib.Hide
import Derived.Handy
import Derived.Deep.Onto
import Derived.Test.YtnjkbmkbifbgkaaC16
import Derived.Test.YtnjkbmkbifbgkaaK3
namespace Go.Proofs.Ytnjkbmkbifbgkaa
open Go.RowKit
set_option maxHeartbeats 400000
set_option linter.unusedVariables false

set_option maxHeartbeats 8000000 in
theorem k21 (v : Value) (L : KL) (n : Int) (w : World) (h : argK w w.heap.size v L) :
    Calls Try.prog 21 #[v, .int .i64 n] w fun e w' => ∃ u, e = .returned (.tuple #[u, .int .i64 (tabE L n)]) ∧ argT w' w'.heap.size u (tabN L n) (tabV L n) ∧ Below w.heap.size w w' := by
  have CK := Lib.hid (c11 v L w h)
  have CA := Lib.hid (fun x W (hW : Below w.heap.size w W) => k16 v L x W (h.up hW hW.size))
  obtain ⟨ao, cap, rfl, h⟩ := h
  clear h
  obtain ⟨l, hl⟩ : ∃ l, L.length = l := ⟨_, rfl⟩
  obtain ⟨E, hE⟩ : ∃ E, chk L = E := ⟨_, rfl⟩
  rw [hl, hE] at CK
  rw [hl] at CA ⊢
  by_cases h0 : E = 0
  · subst h0
    by_cases ho : n < 2 ∨ 256 < n
    · rw [tabN_out ho, tabE_out hE ho]
      clear hl hE CA
      by_cases h1 : n < 2
      · have d1 := decide_eq_true h1
        clear ho
        go_enter Try.func21, Try.ntmps21
        go_wp2_with (go_at_call 11; fail)
        (with_reducible refine CK.out.mono ?_)
        rintro e w1 ⟨rfl, hg⟩
        go_wp2
        exact bodyPost_ret (v := .tuple #[.slice none 0 0, .int .i64 2]) (by simp [results, Try.results21, go_sem, *]) rfl ⟨_, rfl, argT_nil _ _ _, hg⟩
      · have d1 := decide_eq_false h1
        have h2 : 256 < n := by omega
        have d2 := decide_eq_true h2
        clear ho
        go_enter Try.func21, Try.ntmps21
        go_wp2_with (go_at_call 11; fail)
        (with_reducible refine CK.out.mono ?_)
        rintro e w1 ⟨rfl, hg⟩
        go_wp2
        exact bodyPost_ret (v := .tuple #[.slice none 0 0, .int .i64 2]) (by simp [results, Try.results21, go_sem, *]) rfl ⟨_, rfl, argT_nil _ _ _, hg⟩
    · obtain ⟨m, hm⟩ : ∃ m : Nat, n = (m : Int) := ⟨n.toNat, by omega⟩
      subst hm
      have m2 : 2 ≤ m := by omega
      have m3 : m ≤ 256 := by omega
      have TN := tabN_in hE m2 m3
      have TE := tabE_in hE m2 m3
      rw [TN, TE]
      have TV := Lib.hid (fun k => (show tabV L (m : Int) k = atF L (rq ((k : Int) * 65535) ((m : Int) - 1)) from rfl))
      generalize tabV L (m : Int) = f at *
      have CD := Lib.hid (fun (k : Nat) (hk : k < m) w => (show Calls Try.prog 29 #[.int .i64 ((k : Int) * 65535), .int .i64 ((m : Int) - 1)] w fun e w' => e = .returned (.int .i64 (rq ((k : Int) * 65535) ((m : Int) - 1))) ∧ ∃ q, w' = w.drewN q from by
        rw [← dvi_rq (by omega) (by omega) (by omega)]
        exact t14 _ _ w (by omega) (by omega) (by omega) (by omega)))
      have d1 : decide ((m : Int) < 2) = false := decide_eq_false (by omega)
      have d2 : decide ((256 : Int) < (m : Int)) = false := decide_eq_false (by omega)
      have p1 : ¬ (m : Int) < 2 := by omega
      have p2 : ¬ (256 : Int) < (m : Int) := by omega
      clear TN TE hl hE ho
      go_enter Try.func21, Try.ntmps21
      go_wp2_with (go_at_call 11; fail)
      (with_reducible refine CK.out.mono ?_)
      rintro e w1 ⟨rfl, hg⟩
      have hmk := make32 m (by omega)
      go_wp2
      have hr0 : CR (w1.alloc (.cells (zero1 m) 3)) w1.heap.size m (fun _ => 0) := CR_new (fun j hj => zero1_get m j hj)
      have hb0 : Below w.heap.size w (w1.alloc (.cells (zero1 m) 3)) := bel_al hg _
      have hz0 : w1.heap.size < (w1.alloc (.cells (zero1 m) 3)).heap.size := by simp
      have hz1 : w.heap.size ≤ w1.heap.size := hg.size
      generalize w1.alloc (.cells (zero1 m) 3) = w3 at *
      generalize w1.heap.size = M at *
      clear hg hmk CK w1
      go_loopw [24, 8] (fun i _ wr => ∃ k : Nat, k ≤ m ∧ i = .int .i64 (k : Int) ∧ (∃ c, CR wr M m c ∧ ∀ j, j < k → c j = f j) ∧ M < wr.heap.size ∧ Below w.heap.size w wr) (fun i _ _ => (m - (intOf i).toNat))
      case atStart => exact ⟨0, by omega, rfl, ⟨_, hr0, fun j hj => absurd hj (Nat.not_lt_zero j)⟩, hz0, hb0⟩
      case round =>
        obtain ⟨k, hk, rfl, ⟨c, hcr, hci⟩, hM, hnx⟩ := hrel
        have CI := Lib.hid hci
        have CC := Lib.hid hcr
        clear hci hr0 hz0 hb0 w3 hcr
        by_cases hlt : k < m
        · have kk : IntKind.i64.wrap ((k : Int) + 1) = (k : Int) + 1 := IntWalk.i64_in _ (by omega)
          have NX := Lib.hid (fun (c' : Nat → Int) (h1 : ∀ j, j ≠ k → c' j = c j) (h2 : c' k = f k) j (hj : j < k + 1) => (show c' j = f j from by
            rcases Nat.lt_or_eq_of_le (Nat.le_of_lt_succ hj) with h | h
            · rw [h1 _ (by omega)]; exact CI.out j h
            · subst h; exact h2))
          have hkm : (k : Int) < (m : Int) := by omega
          have cd := CD.out k hlt
          have tv := TV.out k
          have ca := CA.out (rq ((k : Int) * 65535) ((m : Int) - 1))
          rw [← tv] at ca
          generalize rq ((k : Int) * 65535) ((m : Int) - 1) = q at *
          generalize f k = fk at *
          have CDk := Lib.hid cd
          have CAk := Lib.hid ca
          clear cd ca tv CI CD CA TV
          go_wp2_with (first | (go_at_call 29; (with_reducible refine (CDk.out _).mono ?_); rintro e w4 ⟨rfl, nq, rfl⟩) | (go_at_call 16; fail))
          have hnx4 := bel_dr hnx nq
          (with_reducible refine (CAk.out _ hnx4).mono ?_)
          rintro e w5 ⟨rfl, hg⟩
          have C5 := CC.out.keep hM ((bel_trans (bel_drewN nq) hg) : Below wr.heap.size wr w5)
          have hnx5 := bel_trans hnx4 hg
          have hM5 : M < w5.heap.size := Nat.lt_of_lt_of_le hM hg.size
          obtain ⟨s0, s1⟩ := C5 k hlt
          clear hg hnx4 CC
          go_wp2
          refine ⟨⟨k + 1, by omega, by simp, ⟨_, C5.set k fk, NX.out _ (fun j h1 => upd_other _ _ h1) (upd_same _ _ _)⟩, by simpa using hM5, Below.setCell hnx5 hz1 _⟩, by simp [intOf]; omega⟩
        · obtain rfl : k = m := by omega
          have hA : argT wr wr.heap.size (.slice (some ⟨M, 0, none⟩) k k) k f := by
            refine ⟨_, k, rfl, fun _ => ⟨M, 0, rfl, hM, fun j hj => ?_⟩⟩
            have h0 := (CC.out j hj).1
            rw [CI.out j hj] at h0
            rw [Nat.zero_add]
            exact h0
          clear CC CI CD CA TV
          go_wp2
          exact bodyPost_ret (v := .tuple #[.slice (some ⟨M, 0, none⟩) k k, .int .i64 0]) (by simp [results, Try.results21, go_sem, *]) rfl ⟨_, rfl, hA, hnx⟩
  · have E1 := tabE_bad (L := L) (n := n) (by rw [hE]; exact h0)
    have E2 := tabN_bad (L := L) (n := n) (by rw [hE]; exact h0)
    rw [hE] at E1
    rw [E1, E2]
    have nE : (E == 0) = false := by simpa using h0
    clear hE E1 E2 CA
    go_enter Try.func21, Try.ntmps21
    go_wp2_with (go_at_call 11; fail)
    (with_reducible refine CK.out.mono ?_)
    rintro e w1 ⟨rfl, hg⟩
    go_wp2
    exact bodyPost_ret (v := .tuple #[.slice none 0 0, .int .i64 (E)]) (by simp [results, Try.results21, go_sem, *]) rfl ⟨_, rfl, argT_nil _ _ _, hg⟩

end Go.Proofs.Ytnjkbmkbifbgkaa
