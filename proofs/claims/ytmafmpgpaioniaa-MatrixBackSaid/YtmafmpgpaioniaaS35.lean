import Derived.Test.YtmafmpgpaioniaaProg
import Derived.WalkKit
import Derived.WalkLawsBesides
import Derived.Outline
import Derived.Lib.Walk
import Derived.Deep.QuietTactic
import Derived.BigQuiet
import Derived.RowKit3
import Derived.Deep.LoopGhost
import Derived.Laws.Rows
import Derived.Laws.Tables
import Derived.Laws.CopyOwn
import Derived.Lib.Hide
import Derived.Handy
import Derived.Deep.Onto
import Derived.IntWalk
import Derived.Deep.WholeRow
import Derived.Laws.ResultCell
import Derived.Laws.MakeOwn
import Derived.Laws.OwnMore
import Derived.Test.YtmafmpgpaioniaaP2
import Derived.Test.YtmafmpgpaioniaaS12
namespace Go.Proofs.Ytmafmpgpaioniaa
open Go.RowKit
set_option maxHeartbeats 400000
set_option linter.unusedVariables false

/-- the numbers that are not in row i or column j, of the first n. -/
def LL (m : Nat → Int) (i j : Nat) : Nat → List Int
  | 0 => []
  | n + 1 => if n / 3 ≠ i ∧ n % 3 ≠ j then LL m i j n ++ [m n] else LL m i j n
def LC (m : Nat → Int) (i j n : Nat) : List Value := (LL m i j n).map (Value.int .i64)
theorem LL_len (m : Nat → Int) (i j : Nat) : ∀ n, (LL m i j n).length ≤ n
  | 0 => Nat.le_refl _
  | n + 1 => by
    have := LL_len m i j n
    unfold LL
    split
    · rw [List.length_append]; simp; omega
    · omega
theorem LL_keep (m : Nat → Int) {i j y x k : Nat} (hx : x < 3) (hk : k = 3 * y + x) (h1 : y ≠ i) (h2 : x ≠ j) : LL m i j (k + 1) = LL m i j k ++ [m k] := by
  rw [LL, if_pos ⟨by rw [show k / 3 = y by omega]; exact h1, by rw [show k % 3 = x by omega]; exact h2⟩]
theorem LL_drop (m : Nat → Int) {i j y x k : Nat} (hx : x < 3) (hk : k = 3 * y + x) (h : y = i ∨ x = j) : LL m i j (k + 1) = LL m i j k := by
  rw [LL, if_neg]
  rintro ⟨h1, h2⟩
  rw [show k / 3 = y by omega] at h1
  rw [show k % 3 = x by omega] at h2
  rcases h with h | h
  · exact h1 h
  · exact h2 h
theorem LL_end (m : Nat → Int) {i j : Nat} (hi : i < 3) (hj : j < 3) : ∃ p0 p1 p2 p3 : Nat, p0 < 9 ∧ p1 < 9 ∧ p2 < 9 ∧ p3 < 9 ∧ LL m i j 9 = [m p0, m p1, m p2, m p3] ∧
    ((i + j) % 2 = 1 → cofF m i j = -(m p0 * m p3 - m p1 * m p2)) ∧ ((i + j) % 2 = 0 → cofF m i j = m p0 * m p3 - m p1 * m p2) := by
  rcases (show i = 0 ∨ i = 1 ∨ i = 2 by omega) with rfl | rfl | rfl <;> rcases (show j = 0 ∨ j = 1 ∨ j = 2 by omega) with rfl | rfl | rfl
  · exact ⟨4, 5, 7, 8, by omega, by omega, by omega, by omega, rfl, fun h => absurd h (by decide), fun _ => by unfold cofF; simp only [Nat.reduceAdd, Nat.reduceMod, Nat.reduceMul]; try grind⟩
  · exact ⟨3, 5, 6, 8, by omega, by omega, by omega, by omega, rfl, fun _ => by unfold cofF; simp only [Nat.reduceAdd, Nat.reduceMod, Nat.reduceMul]; grind, fun h => absurd h (by decide)⟩
  · exact ⟨3, 4, 6, 7, by omega, by omega, by omega, by omega, rfl, fun h => absurd h (by decide), fun _ => by unfold cofF; simp only [Nat.reduceAdd, Nat.reduceMod, Nat.reduceMul]; try grind⟩
  · exact ⟨1, 2, 7, 8, by omega, by omega, by omega, by omega, rfl, fun _ => by unfold cofF; simp only [Nat.reduceAdd, Nat.reduceMod, Nat.reduceMul]; grind, fun h => absurd h (by decide)⟩
  · exact ⟨0, 2, 6, 8, by omega, by omega, by omega, by omega, rfl, fun h => absurd h (by decide), fun _ => by unfold cofF; simp only [Nat.reduceAdd, Nat.reduceMod, Nat.reduceMul]; grind⟩
  · exact ⟨0, 1, 6, 7, by omega, by omega, by omega, by omega, rfl, fun _ => by unfold cofF; simp only [Nat.reduceAdd, Nat.reduceMod, Nat.reduceMul]; grind, fun h => absurd h (by decide)⟩
  · exact ⟨1, 2, 4, 5, by omega, by omega, by omega, by omega, rfl, fun h => absurd h (by decide), fun _ => by unfold cofF; simp only [Nat.reduceAdd, Nat.reduceMod, Nat.reduceMul]; try grind⟩
  · exact ⟨0, 2, 3, 5, by omega, by omega, by omega, by omega, rfl, fun _ => by unfold cofF; simp only [Nat.reduceAdd, Nat.reduceMod, Nat.reduceMul]; grind, fun h => absurd h (by decide)⟩
  · exact ⟨0, 1, 3, 4, by omega, by omega, by omega, by omega, rfl, fun h => absurd h (by decide), fun _ => by unfold cofF; simp only [Nat.reduceAdd, Nat.reduceMod, Nat.reduceMul]; try grind⟩
theorem row_append {B : Nat} {w w2 w3 : World} {v : Value} {t : TypeId} {size n : Nat} {xs : List Value} {o : Obj} (hnx : Below B w w2) (hown : w2.ownsRow B t size v n xs) (hB : B ≤ w2.heap.size) (hgrow : (w2.alloc o).grownBy w3 v.ownBlock) : Below B w w3 :=
  Below.grown (hnx.alloc (by omega) o) hgrow (by simp; omega) fun k hk => (hown.lt k hk).1
theorem info3 : (Try.prog.info? 3).map (fun i => (i.zero, i.size, i.bytes)) = some (some (.int .i64 0), 1, 8) := by kernel_rfl

set_option maxHeartbeats 8000000 in
set_option maxRecDepth 100000 in
theorem s35 (m : Nat → Int) (i j : Nat) (hi : i < 3) (hj : j < 3) (hm : okM m = true) (w : World) :
    Calls Try.prog 35 #[.agg (arr 9 m), .int .i64 (i : Int), .int .i64 (j : Int)] w fun e w' => e = .returned (.int .i64 (cofF m i j)) ∧ Below w.heap.size w w' := by
  obtain ⟨d, hd⟩ : ∃ d, cofF m i j = d := ⟨_, rfl⟩
  obtain ⟨p0, p1, p2, p3, b0, b1, b2, b3, hL, hodd, heven⟩ := LL_end m hi hj
  have r1 := prod_b hm p0 p3 b0 b3
  have r2 := prod_b hm p1 p2 b1 b2
  rw [hd] at hodd heven ⊢
  have HE := Lib.hid (And.intro hL (And.intro hodd (And.intro heven (And.intro r1 (And.intro r2 (And.intro hi hj))))))
  clear hL hodd heven hd b0 b1 b2 b3 r1 r2 hm
  have HC := Lib.hid (fun k (hk : k < 9) => (Has.new w 9 22 m).cell hk)
  have hB := Lib.hid (bel_al (Below.refl w.heap.size w) (.cells (arr 9 m) 22))
  have hz : w.heap.size < (w.alloc (.cells (arr 9 m) 22)).heap.size := by simp
  obtain ⟨i0, hi0, hz0', hz1, hz2⟩ := info_parts info3
  have HK := Lib.hid (fun y x k hx hk h1 h2 => @LL_keep m i j y x k hx hk h1 h2)
  have HD := Lib.hid (fun y x k hx hk h => @LL_drop m i j y x k hx hk h)
  generalize arr 9 m = M at *
  go_enter Try.func35, Try.ntmps35
  go_wp2
  generalize w.alloc (.cells M 22) = V at *
  have HS := Lib.hid (show Below V.heap.size V V ∧ V.ownsRow V.heap.size 3 1 (.slice none 0 0) (LL m i j 0).length (LC m i j 0) from ⟨Below.refl _ _, World.ownsRow_nil _ _ _ _⟩)
  go_loopw [7, 8] (fun s yy W => ∃ y : Nat, yy = .int .i64 (y : Int) ∧ y ≤ 3 ∧ Hid (Below V.heap.size V W ∧ W.ownsRow V.heap.size 3 1 s (LL m i j (3 * y)).length (LC m i j (3 * y)))) (fun _ yy _ => (3 - (intOf yy).toNat))
  case atStart => exact ⟨0, rfl, by omega, HS⟩
  case round =>
    obtain ⟨y, rfl, hy, hs⟩ := hrel
    clear HS
    by_cases hlt : y < 3
    · have ky : IntKind.i64.wrap ((y : Int) + 1) = (y : Int) + 1 := IntWalk.i64_in _ (by omega)
      have y3 : (y : Int) < 3 := by omega
      go_wp2
      go_loopw [7, 9] (fun s xx W => ∃ x : Nat, xx = .int .i64 (x : Int) ∧ x ≤ 3 ∧ Hid (Below V.heap.size V W ∧ W.ownsRow V.heap.size 3 1 s (LL m i j (3 * y + x)).length (LC m i j (3 * y + x)))) (fun _ xx _ => (3 - (intOf xx).toNat))
      case atStart => exact ⟨0, rfl, by omega, hs⟩
      case round =>
        obtain ⟨x, rfl, hx, ht⟩ := hrel
        clear hs
        by_cases hlx : x < 3
        · have x3 : (x : Int) < 3 := by omega
          have kx : IntKind.i64.wrap ((x : Int) + 1) = (x : Int) + 1 := IntWalk.i64_in _ (by omega)
          obtain ⟨k, hk⟩ : ∃ k, k = 3 * y + x := ⟨_, rfl⟩
          have hk1 := Lib.hid (show k + 1 = 3 * y + (x + 1) by omega)
          rw [← hk] at ht
          have drop := Lib.hid (HD.out y x k hlx hk)
          have keep := Lib.hid (HK.out y x k hlx hk)
          have k9 : k < 9 := by omega
          have hlen := LL_len m i j k
          by_cases hyi : y = i
          · have e1 : ((y : Int) == (i : Int)) = true := by simp [hyi]
            have hT := Lib.hid (show Below V.heap.size V wr ∧ wr.ownsRow V.heap.size 3 1 _ (LL m i j (k + 1)).length (LC m i j (k + 1)) by
              unfold LC; rw [drop.out (Or.inl hyi)]; exact ht.out)
            subst hyi
            clear ht hk drop keep hlen
            go_wp2
            go_roundw
            case rel => exact ⟨x + 1, by simp, by omega, by rw [← hk1.out]; exact hT⟩
            case measure => simp [intOf]; omega
          · by_cases hxj : x = j
            · have hT := Lib.hid (show Below V.heap.size V wr ∧ wr.ownsRow V.heap.size 3 1 _ (LL m i j (k + 1)).length (LC m i j (k + 1)) by
                unfold LC; rw [drop.out (Or.inr hxj)]; exact ht.out)
              have e1 : ((y : Int) == (i : Int)) = false := by simp; omega
              subst hxj
              clear ht hk drop keep hlen
              go_wp2
              go_roundw
              case rel => exact ⟨x + 1, by simp, by omega, by rw [← hk1.out]; exact hT⟩
              case measure => simp [intOf]; omega
            · have e1 : ((y : Int) != (i : Int)) = true := by simp; omega
              have e2 : ((x : Int) != (j : Int)) = true := by simp; omega
              obtain ⟨p, hp⟩ : ∃ p, p = 3 * y := ⟨_, rfl⟩
              have f0 : IntKind.i64.wrap (3 * (y : Int)) = (p : Int) := by rw [IntWalk.i64_in _ (by omega)]; omega
              have f1 : IntKind.i64.wrap ((p : Int) + (x : Int)) = (k : Int) := by rw [IntWalk.i64_in _ (by omega)]; omega
              have k9' : (k : Int) < 9 := by omega
              have ck := (ht.out.1.cell (p := ⟨w.heap.size, k, none⟩) hz).trans (HC.out k k9)
              have hown := ht.out.2
              have hBl := ht.out.1
              have hn := keep.out hyi hxj
              have E2 := Lib.hid (show (LL m i j (k + 1)).length = (LL m i j k).length + 1 by rw [hn]; simp)
              have E3 := Lib.hid (show LC m i j (k + 1) = LC m i j k ++ [.int .i64 (m k)] by unfold LC; rw [hn, List.map_append]; rfl)
              clear ht hk drop keep hp hn HC HE
              generalize m k = mk at *
              generalize (LL m i j k).length = len at *
              generalize LC m i j k = cs at *
              go_wp2_with (at_builtin; refine wpList_append_own _ rfl _ _ 52 rfl V.heap.size 3 i0 (.int .i64 0) 1 8 Try.underlying52 hi0 hz0' hz1 hz2 rfl (by decide) _ _ _ rfl (hown.alloc _) ⟨wr.heap.size, 0, none⟩ 1 1 [.int .i64 mk] rfl rfl ?c1 ?c2 ?c3 ?c4 ?c5 ?_)
              case c1 =>
                intro j u hj
                match j, hj with
                | 0, hj => simp at hj; subst hj; simp [Addr.add]
              case c2 => intro u hu; simp at hu; rcases hu with rfl; rfl
              case c3 => unfold maxLen; omega
              case c4 => omega
              case c5 => have := hBl.size; simp; omega
              intro v' w3 hown' hgrow _
              have hT := Lib.hid (show Below V.heap.size V w3 ∧ w3.ownsRow V.heap.size 3 1 v' (LL m i j (k + 1)).length (LC m i j (k + 1)) by rw [E2.out, E3.out]; exact ⟨row_append hBl hown hBl.size hgrow, hown'⟩)
              clear hown' hgrow hown hBl ck E2 E3
              go_wp2
              go_roundw
              case rel => exact ⟨x + 1, by simp, by omega, by rw [← hk1.out]; exact hT⟩
              case measure => simp [intOf]; omega
        · obtain rfl : x = 3 := by omega
          have hT := Lib.hid (show Below V.heap.size V wr ∧ wr.ownsRow V.heap.size 3 1 _ (LL m i j (3 * (y + 1))).length (LC m i j (3 * (y + 1))) by rw [show 3 * (y + 1) = 3 * y + 3 by omega]; exact ht.out)
          clear ht hlx hx
          go_wp2
          go_roundw
          case rel => exact ⟨y + 1, by simp, by omega, hT⟩
          case measure => simp [intOf]; omega
    · obtain rfl : y = 3 := by omega
      obtain ⟨hL, hodd, heven, r1, r2, hi, hj⟩ := HE.out
      have hown := hs.out.2
      have hBl := Lib.hid (bel_trans hB.out hs.out.1)
      have e4 : LL m i j (3 * 3) = [m p0, m p1, m p2, m p3] := hL
      have eC : LC m i j (3 * 3) = [.int .i64 (m p0), .int .i64 (m p1), .int .i64 (m p2), .int .i64 (m p3)] := by unfold LC; rw [e4]; rfl
      rw [eC, e4] at hown
      simp only [List.length_cons, List.length_nil, Nat.zero_add, Nat.reduceAdd] at hown
      rcases hown.2 with ⟨_, h0⟩ | ⟨g, cap, cur, rfl, hb, hg, _⟩
      · exact absurd h0 (by decide)
      have c0 : wr.cell? ⟨g, 0, none⟩ = some (.int .i64 (m p0)) := hown.cellAt 0 (by omega)
      have c1 : wr.cell? ⟨g, 1, none⟩ = some (.int .i64 (m p1)) := hown.cellAt 1 (by omega)
      have c2 : wr.cell? ⟨g, 2, none⟩ = some (.int .i64 (m p2)) := hown.cellAt 2 (by omega)
      have c3 : wr.cell? ⟨g, 3, none⟩ = some (.int .i64 (m p3)) := hown.cellAt 3 (by omega)
      obtain ⟨z, hz⟩ : ∃ z, z = m p0 * m p3 := ⟨_, rfl⟩
      obtain ⟨z', hz'⟩ : ∃ z, z = m p1 * m p2 := ⟨_, rfl⟩
      rw [← hz] at r1 hodd heven
      rw [← hz'] at r2 hodd heven
      clear hs hown hb hg e4 eC hL HE HC HK HD hB hlt hy
      generalize m p0 = u0 at *
      generalize m p1 = u1 at *
      generalize m p2 = u2 at *
      generalize m p3 = u3 at *
      have w1 : IntKind.i64.wrap (u0 * u3) = z := by rw [hz]; exact IntWalk.i64_in _ (by omega)
      have w2 : IntKind.i64.wrap (u1 * u2) = z' := by rw [hz']; exact IntWalk.i64_in _ (by omega)
      have w3 : IntKind.i64.wrap (z - z') = z - z' := IntWalk.i64_in _ (by omega)
      have w4 : IntKind.i64.wrap ((i : Int) + (j : Int)) = (i : Int) + (j : Int) := IntWalk.i64_in _ (by omega)
      have w5 : IntKind.i64.wrap (-(z - z')) = -(z - z') := IntWalk.i64_in _ (by omega)
      clear hz hz'
      rw [show ((3 : Nat) : Int) = 3 from rfl]
      rcases Nat.mod_two_eq_zero_or_one (i + j) with hp | hp
      · have hdd := heven hp
        have t2 : ((i : Int) + (j : Int)).tmod 2 = 0 := by rw [Int.tmod_eq_emod_of_nonneg (by omega)]; omega
        subst hdd
        clear hodd heven hp r1 r2
        go_wp2
        go_quiet (fail)
        go_wp2
        go_ret
        exact ⟨rfl, bel_dr hBl.out _⟩
      · have hdd := hodd hp
        have t2 : ((i : Int) + (j : Int)).tmod 2 = 1 := by rw [Int.tmod_eq_emod_of_nonneg (by omega)]; omega
        subst hdd
        clear hodd heven hp r1 r2
        go_wp2
        go_quiet (fail)
        go_wp2
        go_ret
        exact ⟨rfl, bel_dr hBl.out _⟩

end Go.Proofs.Ytmafmpgpaioniaa
