import Derived.Test.YtnjkbmkbifbgkaaProg
import Derived.WalkKit
import Derived.WalkLawsBesides
import Derived.Outline
import Derived.Lib.Walk
import Derived.Deep.QuietTactic
import Derived.BigQuiet
import Derived.RowKit3
import Derived.Deep.LoopGhost
import Derived.Laws.Rows
import Derived.Laws.Tables
import Derived.Laws.CopyOwn
import Derived.Lib.Hide
import Derived.Handy
import Derived.Deep.Onto
import Derived.Test.YtnjkbmkbifbgkaaC16a
import Derived.Test.YtnjkbmkbifbgkaaK2
namespace Go.Proofs.Ytnjkbmkbifbgkaa
open Go.RowKit
set_option maxHeartbeats 400000
set_option linter.unusedVariables false

set_option maxHeartbeats 8000000 in
theorem k18 (v : Value) (L : KL) (w : World) (h : argK w w.heap.size v L) :
    Calls Try.prog 18 #[v] w fun e w' => ∃ u, e = .returned (.tuple #[u, .int .i64 (invE L)]) ∧ argK w' w'.heap.size u (invR L) ∧ Below w.heap.size w w' := by
  have CK := Lib.hid (c11 v L w h)
  have CR := Lib.hid (fun W (hW : Below w.heap.size w W) => c13 v L W (h.up hW hW.size))
  obtain ⟨ao, cap, rfl, h⟩ := h
  obtain ⟨n, hn⟩ : ∃ n, L.length = n := ⟨_, rfl⟩
  obtain ⟨E, hE⟩ : ∃ E, chk L = E := ⟨_, rfl⟩
  by_cases h0 : E = 0
  · subst h0
    obtain ⟨r, hr⟩ : ∃ r, ris L = r := ⟨_, rfl⟩
    have g := chk_good hE
    have g2 := g.two
    have g16 := g.some
    rw [hn] at CK CR h g2 g16 ⊢
    rw [hE] at CK
    rw [hr] at CR
    cases r
    · have E1 : invE L = 1 := by unfold invE; rw [if_pos hE, if_neg (by rw [hr]; decide)]
      have E2 : invR L = [] := by unfold invR; rw [if_neg (by rw [hr]; decide)]
      rw [E1, E2]
      clear h hE hr g E1 E2
      go_enter Try.func18, Try.ntmps18
      go_wp2_with (go_at_call 11; fail)
      (with_reducible refine CK.out.mono ?_)
      rintro e w1 ⟨rfl, hg⟩
      go_wp2_with (go_at_call 13; fail)
      (with_reducible refine (CR.out _ hg).mono ?_)
      rintro e w2 ⟨rfl, hg2⟩
      go_wp2
      exact bodyPost_ret (v := .tuple #[.slice none 0 0, .int .i64 (1)]) (by simp [results, Try.results18, go_sem, *]) rfl ⟨_, rfl, argK_nil _ _, bel_trans hg hg2⟩
    · have E1 : invE L = 0 := by unfold invE; rw [if_pos hE, if_pos hr]
      have E2 : invR L = invF L := by unfold invR; rw [if_pos hr]
      rw [E1, E2]
      clear hE hr g E1 E2
      obtain ⟨g, o, rfl, hblk, hc⟩ := h (by omega)
      clear h
      have HN := Lib.hid hn
      have HC := Lib.hid hc
      clear hc hn
      go_enter Try.func18, Try.ntmps18
      go_wp2_with (go_at_call 11; fail)
      (with_reducible refine CK.out.mono ?_)
      rintro e w1 ⟨rfl, hg⟩
      go_wp2_with (go_at_call 13; fail)
      (with_reducible refine (CR.out _ hg).mono ?_)
      rintro e w2 ⟨rfl, hg2⟩
      have hg3 := bel_trans hg hg2
      clear hg hg2 CK CR
      have hmk := make22 n (by omega)
      go_wp2
      have hr0 : CR (w2.alloc (.cells (zero2 n) 36)) w2.heap.size (n * 2) (fun _ => 0) := CR_new (fun j hj => zero2_get n j hj)
      have hb0 : Below w.heap.size w (w2.alloc (.cells (zero2 n) 36)) := bel_al hg3 _
      have hz0 : w2.heap.size < (w2.alloc (.cells (zero2 n) 36)).heap.size := by simp
      have hz1 : w.heap.size ≤ w2.heap.size := hg3.size
      generalize w2.alloc (.cells (zero2 n) 36) = w3 at *
      generalize w2.heap.size = M at *
      clear hg3 hmk w2 w1
      go_loopw [21] (fun i wr => ∃ k : Nat, k ≤ n ∧ i = .int .i64 (k : Int) ∧ (∃ c, CR wr M (n * 2) c ∧ ∀ j, j < k → c (j * 2) = (kn L j).2 ∧ c (j * 2 + 1) = (kn L j).1) ∧ M < wr.heap.size ∧ Below w.heap.size w wr) (fun i _ => (n - (intOf i).toNat))
      case atStart => exact ⟨0, by omega, rfl, ⟨_, hr0, fun j hj => absurd hj (Nat.not_lt_zero j)⟩, hz0, hb0⟩
      case round =>
        obtain ⟨k, hk, rfl, ⟨c, hcr, hci⟩, hM, hnx⟩ := hrel
        have CI := Lib.hid hci
        have CC := Lib.hid hcr
        clear hci hr0 hz0 hb0 w3 hcr
        by_cases hlt : k < n
        · have f0 := (hnx.cell (p := ⟨g, o + k * 2, none⟩) hblk).trans (HC.out k hlt).1
          have f1 := (hnx.cell (p := ⟨g, o + k * 2 + 1, none⟩) hblk).trans (HC.out k hlt).2
          have kk : IntKind.i64.wrap ((k : Int) + 1) = (k : Int) + 1 := IntWalk.i64_in _ (by omega)
          have NX := Lib.hid (fun (c' : Nat → Int) (h1 : ∀ j, j ≠ k * 2 → j ≠ k * 2 + 1 → c' j = c j) (h2 : c' (k * 2) = (kn L k).2) (h3 : c' (k * 2 + 1) = (kn L k).1) j (hj : j < k + 1) => (show c' (j * 2) = (kn L j).2 ∧ c' (j * 2 + 1) = (kn L j).1 from by
            rcases Nat.lt_or_eq_of_le (Nat.le_of_lt_succ hj) with h | h
            · rw [h1 _ (by omega) (by omega), h1 _ (by omega) (by omega)]; exact CI.out j h
            · subst h; exact ⟨h2, h3⟩))
          have hkn : (k : Int) < (n : Int) := by omega
          generalize (kn L k).1 = x at *
          generalize (kn L k).2 = y at *
          obtain ⟨s0, s1⟩ := CC.out (k * 2) (by omega)
          obtain ⟨s2, s3⟩ := CC.out (k * 2 + 1) (by omega)
          clear CI
          go_wp2
          refine ⟨⟨k + 1, by omega, by simp, ⟨_, ((CC.out.set (k * 2) y).set (k * 2 + 1) x).keep (by simpa using hM) (bel_al (Below.refl _ _) _), NX.out _ (fun j h1 h2 => ?_) ?_ ?_⟩, ?_, ?_⟩, ?_⟩
          · rw [upd_other _ _ h2, upd_other _ _ h1]
          · rw [upd_other _ _ (by omega), upd_same]
          · rw [upd_same]
          · simp; omega
          · exact bel_al (Below.setCell (Below.setCell hnx hz1 _) hz1 _) _
          · simp [intOf]; omega
        · obtain rfl : k = n := by omega
          have hA : argK wr wr.heap.size (.slice (some ⟨M, 0, none⟩) k k) (invF L) := by
            have hl : (invF L).length = k := (List.length_map _).trans HN.out
            refine ⟨_, k, by rw [hl], fun _ => ⟨M, 0, rfl, hM, fun j hj => ?_⟩⟩
            rw [hl] at hj
            have h0 := (CC.out (j * 2) (by omega)).1
            have h1 := (CC.out (j * 2 + 1) (by omega)).1
            rw [(CI.out j hj).1] at h0
            rw [(CI.out j hj).2] at h1
            rw [Nat.zero_add]
            unfold invF
            rw [kn_map]
            exact ⟨h0, h1⟩
          clear CC CI HC HN
          go_wp2
          exact bodyPost_ret (v := .tuple #[.slice (some ⟨M, 0, none⟩) k k, .int .i64 0]) (by simp [results, Try.results18, go_sem, *]) rfl ⟨_, rfl, hA, hnx⟩
  · have E1 : invE L = E := by rw [invE_of (by rw [hE]; exact h0), hE]
    have E2 : invR L = [] := invR_bad (by rw [hE]; exact h0)
    rw [hE, hn] at CK
    rw [hn, E1, E2]
    have nE : (E == 0) = false := by simpa using h0
    clear h hE CR E1 E2
    go_enter Try.func18, Try.ntmps18
    go_wp2_with (go_at_call 11; fail)
    (with_reducible refine CK.out.mono ?_)
    rintro e w1 ⟨rfl, hg⟩
    go_wp2
    exact bodyPost_ret (v := .tuple #[.slice none 0 0, .int .i64 (E)]) (by simp [results, Try.results18, go_sem, *]) rfl ⟨_, rfl, argK_nil _ _, hg⟩

end Go.Proofs.Ytnjkbmkbifbgkaa
