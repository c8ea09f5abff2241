import Derived.Test.YtnjkbmkbifbgkaaProg
import Derived.WalkKit
import Derived.WalkLawsBesides
import Derived.Outline
import Derived.Lib.Walk
import Derived.Deep.QuietTactic
import Derived.BigQuiet
import Derived.RowKit3
import Derived.Deep.LoopGhost
import Derived.Laws.Rows
import Derived.Laws.Tables
import Derived.Laws.CopyOwn
import Derived.Lib.Hide
import Derived.Handy
import Derived.Deep.Onto
import Derived.Deep.RegionHeld3
import Derived.Deep.AppendLies
import Derived.Test.YtnjkbmkbifbgkaaC16a
import Derived.Test.YtnjkbmkbifbgkaaK2
import Derived.Test.YtnjkbmkbifbgkaaS14
namespace Go.Proofs.Ytnjkbmkbifbgkaa
open Go.RowKit
set_option maxHeartbeats 400000
set_option linter.unusedVariables false

theorem ownsRow_below {w w' : World} {base : Nat} {t : TypeId} {size : Nat} {v : Value} {n : Nat} {xs : List Value} (h : w.ownsRow base t size v n xs) (hb : Below w.heap.size w w') : w'.ownsRow base t size v n xs :=
  World.ownsRow.kept (row := none) h ⟨hb.os, hb.tape, hb.output, hb.size, fun k hk _ => hb.block k hk⟩ (by cases hv : v.ownBlock <;> simp)
theorem news2 {W : World} {b : Nat} {x y : Value} (h0 : W.cell? ⟨b, 0, none⟩ = some x) (h1 : W.cell? ⟨b, 1, none⟩ = some y) : ∀ j u, ([x, y] : List Value)[j]? = some u → W.cell? ((⟨b, 0, none⟩ : Addr).add j) = some u := by
  intro j u hj
  match j, hj with
  | 0, hj => simp at hj; subst hj; simpa [Addr.add] using h0
  | 1, hj => simp at hj; subst hj; simpa [Addr.add] using h1
theorem row_append {B : Nat} {w w2 w3 : World} {v : Value} {t : TypeId} {size n : Nat} {xs : List Value} {o : Obj} (hnx : Below B w w2) (hown : w2.ownsRow B t size v n xs) (hB : B ≤ w2.heap.size) (hgrow : (w2.alloc o).grownBy w3 v.ownBlock) : Below B w w3 :=
  Below.grown (hnx.alloc (by omega) o) hgrow (by simp; omega) fun k hk => (hown.lt k hk).1
abbrev SX (w : World) (g i j : Nat) (x y : Int) (W : World) : Prop := Below w.heap.size w W ∧ W.cell? ⟨g, i, none⟩ = some (.int .i64 x) ∧ W.cell? ⟨g, j, none⟩ = some (.int .i64 y)
theorem SX.al {w W : World} {g i j : Nat} {x y : Int} (hg : g < w.heap.size) (h : SX w g i j x y W) (o : Obj) : SX w g i j x y (W.alloc o) := by
  have hW := (Below.refl W.heap.size W).alloc (Nat.le_refl _) o
  have hl : g < W.heap.size := Nat.lt_of_lt_of_le hg h.1.size
  exact ⟨bel_al h.1 o, (hW.cell (p := ⟨g, i, none⟩) hl).trans h.2.1, (hW.cell (p := ⟨g, j, none⟩) hl).trans h.2.2⟩
theorem SX.bel {w W : World} {g i j : Nat} {x y : Int} (h : SX w g i j x y W) : Below w.heap.size w W := h.1
def cellsV (l : KL) : List Value := l.flatMap fun p => [.int .i64 p.1, .int .i64 p.2]
theorem cellsV_len (l : KL) : (cellsV l).length = l.length * 2 := by
  induction l with
  | nil => rfl
  | cons p l ih => rw [show cellsV (p :: l) = [.int .i64 p.1, .int .i64 p.2] ++ cellsV l from rfl, List.length_append, ih]; simp; omega
theorem cellsV_at : ∀ (l : KL) (j : Nat), j < l.length → (cellsV l)[j * 2]? = some (.int .i64 (kn l j).1) ∧ (cellsV l)[j * 2 + 1]? = some (.int .i64 (kn l j).2)
  | [], j, h => absurd h (Nat.not_lt_zero j)
  | p :: l, 0, _ => ⟨rfl, rfl⟩
  | p :: l, j + 1, h => by
    have := cellsV_at l j (by simpa using h)
    rw [show cellsV (p :: l) = .int .i64 p.1 :: .int .i64 p.2 :: cellsV l from rfl, show (j + 1) * 2 = j * 2 + 1 + 1 by omega, kn_succ]
    exact this
theorem cellsV_append (l m : KL) : cellsV (l ++ m) = cellsV l ++ cellsV m := by unfold cellsV; rw [List.flatMap_append]
theorem take_kn (l : KL) (k : Nat) (h : k < l.length) : l.take (k + 1) = l.take k ++ [kn l k] := by
  rw [List.take_add_one]; unfold kn
  rw [List.getD_eq_getElem?_getD, List.getElem?_eq_getElem h]; rfl
theorem argK_own {W : World} {B : Nat} {v : Value} {l : KL} (h : W.ownsRow B 36 2 v l.length (cellsV l)) : argK W W.heap.size v l := by
  rcases h.2 with ⟨rfl, h0⟩ | ⟨g, cap, cur, rfl, hb, hg, _⟩
  · exact ⟨none, 0, by rw [h0], fun hl => absurd hl (by omega)⟩
  · refine ⟨_, cap, rfl, fun hl => ⟨g, 0, rfl, (Array.getElem?_eq_some_iff.1 hg).1, fun k hk => ?_⟩⟩
    have h1 := h.cellAt (k * 2) (by omega)
    have h2 := h.cellAt (k * 2 + 1) (by omega)
    obtain ⟨e1, e2⟩ := cellsV_at l k hk
    rw [e1] at h1
    rw [e2] at h2
    rw [Nat.zero_add]
    exact ⟨h1, h2⟩

set_option maxHeartbeats 8000000 in
theorem s19 (v : Value) (L : KL) (w : World) (h : argK w w.heap.size v L) :
    Calls Try.prog 19 #[v] w fun e w' => ∃ u, e = .returned (.tuple #[u, .int .i64 (invE L)]) ∧ argK w' w'.heap.size u (invR L) ∧ Below w.heap.size w w' := by
  have CK := Lib.hid (s12 v L w h)
  have CR := Lib.hid (fun W (hW : Below w.heap.size w W) => s14 v L W (h.up hW hW.size))
  obtain ⟨ao, cap, rfl, h⟩ := h
  obtain ⟨n, hn⟩ : ∃ n, L.length = n := ⟨_, rfl⟩
  obtain ⟨E, hE⟩ : ∃ E, chk L = E := ⟨_, rfl⟩
  by_cases h0 : E = 0
  · subst h0
    obtain ⟨r, hr⟩ : ∃ r, ris L = r := ⟨_, rfl⟩
    have g := chk_good hE
    have g2 := g.two
    have g16 := g.some
    rw [hn] at CK CR h g2 g16 ⊢
    rw [hE] at CK
    rw [hr] at CR
    cases r
    · have E1 : invE L = 1 := by unfold invE; rw [if_pos hE, if_neg (by rw [hr]; decide)]
      have E2 : invR L = [] := by unfold invR; rw [if_neg (by rw [hr]; decide)]
      rw [E1, E2]
      clear h hE hr g E1 E2
      go_enter Try.func19, Try.ntmps19
      go_wp2_with (go_at_call 12; fail)
      (with_reducible refine CK.out.mono ?_)
      rintro e w1 ⟨rfl, hg⟩
      go_wp2_with (go_at_call 14; fail)
      (with_reducible refine (CR.out _ hg).mono ?_)
      rintro e w2 ⟨rfl, hg2⟩
      go_wp2
      exact bodyPost_ret (v := .tuple #[.slice none 0 0, .int .i64 1]) (by simp [results, Try.results19, go_sem, *]) rfl ⟨_, rfl, argK_nil _ _, bel_trans hg hg2⟩
    · have E1 : invE L = 0 := by unfold invE; rw [if_pos hE, if_pos hr]
      have E2 : invR L = invF L := by unfold invR; rw [if_pos hr]
      rw [E1, E2]
      clear hE hr g E1 E2
      obtain ⟨g, o, rfl, hblk, hc⟩ := h (by omega)
      clear h
      have HL := Lib.hid (show (invF L).length = n from (List.length_map _).trans hn)
      have HC := Lib.hid hc
      clear hc hn
      obtain ⟨i0, hi, hz0', hz1, hz2⟩ := info_parts info36
      go_enter Try.func19, Try.ntmps19
      go_wp2_with (go_at_call 12; fail)
      (with_reducible refine CK.out.mono ?_)
      rintro e w1 ⟨rfl, hg⟩
      go_wp2_with (go_at_call 14; fail)
      (with_reducible refine (CR.out _ hg).mono ?_)
      rintro e w2 ⟨rfl, hg2⟩
      have hg3 := bel_trans hg hg2
      clear hg hg2 CK CR
      go_wp2
      go_loopw [5, 6] (fun s i wr => ∃ k : Nat, k ≤ n ∧ i = .int .i64 (k : Int) ∧ wr.ownsRow w.heap.size 36 2 s ((invF L).take k).length (cellsV ((invF L).take k)) ∧ Below w.heap.size w wr) (fun _ i _ => (n - (intOf i).toNat))
      case atStart => exact ⟨0, by omega, rfl, by exact World.ownsRow_lit (base := w.heap.size) (e := 36) (size := 2) w2 #[] 0 hg3.size (by unfold maxLen; omega) rfl, bel_al hg3 _⟩
      case round =>
        obtain ⟨k, hk, rfl, hown, hnx⟩ := hrel
        clear hg3
        by_cases hlt : k < n
        · have f0 := (hnx.cell (p := ⟨g, o + k * 2, none⟩) hblk).trans (HC.out k hlt).1
          have f1 := (hnx.cell (p := ⟨g, o + k * 2 + 1, none⟩) hblk).trans (HC.out k hlt).2
          have kk : IntKind.i64.wrap ((k : Int) + 1) = (k : Int) + 1 := IntWalk.i64_in _ (by omega)
          obtain ⟨q0, q1⟩ := HC.out k hlt
          have e1 := take_kn (invF L) k (by rw [HL.out]; exact hlt)
          rw [show kn (invF L) k = ((kn L k).2, (kn L k).1) from kn_map L k] at e1
          have hkn : (k : Int) < (n : Int) := by omega
          generalize (kn L k).1 = x at *
          generalize (kn L k).2 = y at *
          have E2 := Lib.hid (show ((invF L).take (k + 1)).length = ((invF L).take k).length + 1 by rw [e1]; simp)
          have E3 := Lib.hid (show cellsV ((invF L).take (k + 1)) = cellsV ((invF L).take k) ++ [.int .i64 y, .int .i64 x] by rw [e1, cellsV_append]; rfl)
          have hlen : ((invF L).take k).length ≤ 16 := by rw [List.length_take]; omega
          clear e1
          generalize ((invF L).take k).length = len at *
          generalize cellsV ((invF L).take k) = cs at *
          have HS := Lib.hid (fun (W : World) (hW : Below w.heap.size w W) => (⟨hW, (hW.cell (p := ⟨g, o + k * 2, none⟩) hblk).trans q0, (hW.cell (p := ⟨g, o + k * 2 + 1, none⟩) hblk).trans q1⟩ : SX w g (o + k * 2) (o + k * 2 + 1) x y W))
          have hS0 := HS.out _ (bel_dr hnx 1)
          clear q0 q1 f0 f1
          go_wp2_with fail
          go_region_held3 (fun W => SX w g (o + k * 2) (o + k * 2 + 1) x y W)
            (first | exact hS0 | assumption | exact SX.al hblk (by assumption) _ | exact hB4)
            (first | (refine step_append_lies _ rfl _ _ 22 rfl w.heap.size 36 i0 (.agg #[.int .i64 0, .int .i64 0]) 2 16 Try.underlying22 hi hz0' hz1 hz2 rfl (by decide) _ _ cs rfl (hown.drew.alloc _) ⟨_, 0, none⟩ 1 1 [.int .i64 y, .int .i64 x] rfl rfl (news2 (by simp [go_sem]) (by simp [go_sem])) (by intro u hu; simp at hu; rcases hu with rfl | rfl <;> rfl) (by decide) (by unfold maxLen; omega) (by omega) (SX.bel (by assumption : SX w g _ _ _ _ _)).size _ rfl ?_; intro g' cap' w3 hown' hgrow hmv hgl; have hB4 := HS.out w3 (Below.grown (SX.bel (by assumption : SX w g _ _ _ _ _)) hgrow (SX.bel (by assumption : SX w g _ _ _ _ _)).size (fun j hj => (hown.lt j hj).1))))
          all_goals
            go_wp2
            go_roundw
            case rel => exact ⟨k + 1, by omega, by simp, by rw [E2.out, E3.out]; exact hown', SX.bel (by assumption : SX w g _ _ _ _ _)⟩
            case measure => simp [intOf]; omega
        · obtain rfl : k = n := by omega
          have hA := hown
          rw [← HL.out, List.take_length] at hA
          have hA2 := Lib.hid (argK_own hA)
          clear hA hown HC
          go_wp2
          exact bodyPost_ret (v := .tuple #[_, .int .i64 0]) (by simp [results, Try.results19, go_sem, *]) rfl ⟨_, rfl, hA2.out, hnx⟩
  · have E1 : invE L = E := by rw [invE_of (by rw [hE]; exact h0), hE]
    have E2 : invR L = [] := invR_bad (by rw [hE]; exact h0)
    rw [hE, hn] at CK
    rw [hn, E1, E2]
    have nE : (E == 0) = false := by simpa using h0
    clear h hE CR E1 E2
    go_enter Try.func19, Try.ntmps19
    go_wp2_with (go_at_call 12; fail)
    (with_reducible refine CK.out.mono ?_)
    rintro e w1 ⟨rfl, hg⟩
    go_wp2
    exact bodyPost_ret (v := .tuple #[.slice none 0 0, .int .i64 (E)]) (by simp [results, Try.results19, go_sem, *]) rfl ⟨_, rfl, argK_nil _ _, hg⟩

end Go.Proofs.Ytnjkbmkbifbgkaa
