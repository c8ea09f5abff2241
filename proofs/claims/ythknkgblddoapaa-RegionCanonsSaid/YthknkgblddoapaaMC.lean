import Derived.Test.YthknkgblddoapaaProg
import Derived.WalkKit
import Derived.WalkLawsBesides
import Derived.Outline
import Derived.Lib.Walk
import Derived.Deep.QuietTactic
import Derived.BigQuiet
import Derived.RowKit3
import Derived.Deep.LoopGhost
import Derived.Great.Walk
import Derived.Great.BuildSlice
import Derived.Laws.Rows
import Derived.Laws.Tables
import Derived.Laws.CopyOwn
import Derived.Lib.Hide
import Derived.Handy
import Derived.Deep.Onto
import Derived.ArgAppend
import Derived.Deep.RegionLaw
import Derived.Deep.RegionHeld3
import Derived.Test.YthknkgblddoapaaMA
import Derived.Test.YthknkgblddoapaaMB
namespace Go.Proofs.Ythknkgblddoapaa

section
open Go.RowKit
set_option maxHeartbeats 400000
set_option linter.unusedVariables false
/-- a list of rectangles that lies at a slice, in a block below B. -/
def argR (W : World) (B : Nat) (v : Value) (L : List Rc) : Prop :=
  ∃ ao cap, v = .slice ao L.length cap ∧ (0 < L.length → ∃ g o, ao = some ⟨g, o, none⟩ ∧ g < B ∧ ∀ k, k < L.length →
    W.cell? ⟨g, o + k * 4, none⟩ = some (.int .i64 (L.getD k Rc.zero).x) ∧ W.cell? ⟨g, o + k * 4 + 1, none⟩ = some (.int .i64 (L.getD k Rc.zero).y) ∧
    W.cell? ⟨g, o + k * 4 + 2, none⟩ = some (.int .i64 (L.getD k Rc.zero).w) ∧ W.cell? ⟨g, o + k * 4 + 3, none⟩ = some (.int .i64 (L.getD k Rc.zero).h))
theorem argR.below {W W' : World} {B : Nat} {v : Value} {L : List Rc} (h : argR W B v L) (hb : Below B W W') : argR W' B v L := by
  obtain ⟨ao, cap, rfl, h⟩ := h
  refine ⟨ao, cap, rfl, fun hl => ?_⟩
  obtain ⟨g, o, rfl, hB, hc⟩ := h hl
  refine ⟨g, o, rfl, hB, fun k hk => ?_⟩
  obtain ⟨h0, h1, h2, h3⟩ := hc k hk
  exact ⟨(hb.cell (p := ⟨g, o + k * 4, none⟩) hB).trans h0, (hb.cell (p := ⟨g, o + k * 4 + 1, none⟩) hB).trans h1, (hb.cell (p := ⟨g, o + k * 4 + 2, none⟩) hB).trans h2, (hb.cell (p := ⟨g, o + k * 4 + 3, none⟩) hB).trans h3⟩
theorem argR.mono {W : World} {B B' : Nat} {v : Value} {L : List Rc} (h : argR W B v L) (hb : B ≤ B') : argR W B' v L := by
  obtain ⟨ao, cap, rfl, h⟩ := h
  refine ⟨ao, cap, rfl, fun hl => ?_⟩
  obtain ⟨g, o, rfl, hB, hc⟩ := h hl
  exact ⟨g, o, rfl, Nat.lt_of_lt_of_le hB hb, hc⟩
theorem getR_mem {L : List Rc} {k : Nat} (h : k < L.length) : L.getD k Rc.zero ∈ L := by
  rw [List.getD_eq_getElem?_getD, List.getElem?_eq_getElem h]
  exact List.getElem_mem h
/-- the elements of a list that count. -/
def partF (L : List Rc) : List Rc := kep L 256
theorem kep_all (L : List Rc) (k : Nat) (h : L.length ≤ k) : kep L k = kep L L.length := by
  unfold kep
  rw [List.take_of_length_le h, List.take_length]
set_option maxHeartbeats 2000000 in
set_option maxRecDepth 100000 in
theorem gPart (v : Value) (L : List Rc) (w : World) (hL : ∀ t ∈ L, t.big) (h : argR w w.heap.size v L) :
    Calls Try.prog 36 #[v] w fun e w' => ∃ u, e = .returned u ∧ Below w.heap.size w w' ∧ w'.ownsRow w.heap.size 33 4 u (partF L).length (cellsR (partF L)) := by
  obtain ⟨ao, cap, rfl, h⟩ := h
  obtain ⟨n, hn⟩ : ∃ n, L.length = n := ⟨_, rfl⟩
  rw [hn] at h ⊢
  have HN := Lib.hid hn
  have H := Lib.hid h
  have HB := Lib.hid hL
  clear h hn hL
  obtain ⟨i0, hi, hz0', hz1, hz2⟩ := info_parts info23
  go_enter Try.func36, Try.ntmps36
  go_wp2
  go_loopw [3, 4] (fun s i wr => ∃ k : Nat, k ≤ n ∧ k ≤ 256 ∧ i = .int .i64 (k : Int) ∧ wr.ownsRow w.heap.size 33 4 s (kep L k).length (cellsR (kep L k)) ∧ Below w.heap.size w wr) (fun _ i _ => (256 - (intOf i).toNat))
  case atStart => exact ⟨0, by omega, by omega, rfl, World.ownsRow_nil _ _ _ _, Below.refl _ _⟩
  case round =>
    obtain ⟨k, hk, hk2, rfl, hown, hnx⟩ := hrel
    by_cases hlt : k < n ∧ k < 256
    · obtain ⟨hlt, hlt2⟩ := hlt
      obtain ⟨g, o, rfl, hblk, hc⟩ := H.out (by omega)
      obtain ⟨f0, f1, f2, f3⟩ := hc k hlt
      replace f0 := (hnx.cell (p := ⟨g, o + k * 4, none⟩) hblk).trans f0
      replace f1 := (hnx.cell (p := ⟨g, o + k * 4 + 1, none⟩) hblk).trans f1
      replace f2 := (hnx.cell (p := ⟨g, o + k * 4 + 2, none⟩) hblk).trans f2
      replace f3 := (hnx.cell (p := ⟨g, o + k * 4 + 3, none⟩) hblk).trans f3
      have hb := HB.out _ (getR_mem (L := L) (k := k) (by rw [HN.out]; exact hlt))
      have hh := Lib.hid (kep_hit L k (by rw [HN.out]; exact hlt))
      have hm := Lib.hid (kep_miss L k (by rw [HN.out]; exact hlt))
      have kl := kep_le L k
      generalize L.getD k Rc.zero = S at *
      have cv := fun w => t14 S.x S.y S.w S.h w hb.1.1 hb.1.2 hb.2.1 hb.2.2
      have ce := fun w => t16 S.x S.y S.w S.h w hb.1.1 hb.1.2 hb.2.1 hb.2.2
      have kk : IntKind.i64.wrap ((k : Int) + 1) = (k : Int) + 1 := IntWalk.i64_in _ (by omega)
      rcases rc_ways S.x S.y S.w S.h with ⟨r1, r2⟩ | ⟨r1, r2, r3⟩ | ⟨r1, r2, r3, r4⟩ | ⟨r1, r2, r3, r4⟩
      · rw [r1] at cv
        have CV := Lib.hid cv
        have HM := Lib.hid (hm.out r2)
        clear cv ce r1 r2 hb hh hm
        go_wp2_with (first | (go_at_call 40; ((with_reducible refine (CV.out _).mono ?_)); rintro e w1 ⟨rfl, hg⟩; replace f0 := (hg.1.cell (p := ⟨g, o + k * 4, none⟩) (by have := hnx.size; dsimp only; omega)).trans f0; replace f1 := (hg.1.cell (p := ⟨g, o + k * 4 + 1, none⟩) (by have := hnx.size; dsimp only; omega)).trans f1; replace f2 := (hg.1.cell (p := ⟨g, o + k * 4 + 2, none⟩) (by have := hnx.size; dsimp only; omega)).trans f2; replace f3 := (hg.1.cell (p := ⟨g, o + k * 4 + 3, none⟩) (by have := hnx.size; dsimp only; omega)).trans f3; replace hown := ownsRow_below hown hg.1; replace hnx := Below.trans hnx (hg.1.mono hnx.size)))
        go_roundw
        case rel => exact ⟨k + 1, by omega, by omega, by simp, by rw [HM.out]; exact hown, hnx⟩
        case measure => simp [intOf]; omega
      · rw [r1] at cv
        rw [r3] at ce
        have CV := Lib.hid cv
        have CE := Lib.hid ce
        have HM := Lib.hid (hm.out r3)
        clear cv ce r1 r2 r3 hb hh hm
        go_wp2_with (first | (go_at_call 40; ((with_reducible refine (CV.out _).mono ?_)); rintro e w1 ⟨rfl, hg⟩; replace f0 := (hg.1.cell (p := ⟨g, o + k * 4, none⟩) (by have := hnx.size; dsimp only; omega)).trans f0; replace f1 := (hg.1.cell (p := ⟨g, o + k * 4 + 1, none⟩) (by have := hnx.size; dsimp only; omega)).trans f1; replace f2 := (hg.1.cell (p := ⟨g, o + k * 4 + 2, none⟩) (by have := hnx.size; dsimp only; omega)).trans f2; replace f3 := (hg.1.cell (p := ⟨g, o + k * 4 + 3, none⟩) (by have := hnx.size; dsimp only; omega)).trans f3; replace hown := ownsRow_below hown hg.1; replace hnx := Below.trans hnx (hg.1.mono hnx.size)) | (go_at_call 41; ((with_reducible refine (CE.out _).mono ?_)); rintro e w1 ⟨rfl, hg⟩; replace f0 := (hg.1.cell (p := ⟨g, o + k * 4, none⟩) (by have := hnx.size; dsimp only; omega)).trans f0; replace f1 := (hg.1.cell (p := ⟨g, o + k * 4 + 1, none⟩) (by have := hnx.size; dsimp only; omega)).trans f1; replace f2 := (hg.1.cell (p := ⟨g, o + k * 4 + 2, none⟩) (by have := hnx.size; dsimp only; omega)).trans f2; replace f3 := (hg.1.cell (p := ⟨g, o + k * 4 + 3, none⟩) (by have := hnx.size; dsimp only; omega)).trans f3; replace hown := ownsRow_below hown hg.1; replace hnx := Below.trans hnx (hg.1.mono hnx.size)))
        go_roundw
        case rel => exact ⟨k + 1, by omega, by omega, by simp, by rw [HM.out]; exact hown, hnx⟩
        case measure => simp [intOf]; omega
      · rw [r1] at cv
        rw [r4] at ce
        have CV := Lib.hid cv
        have CE := Lib.hid ce
        have HM := Lib.hid (hm.out r4)
        clear cv ce r1 r2 r3 r4 hb hh hm
        go_wp2_with (first | (go_at_call 40; ((with_reducible refine (CV.out _).mono ?_)); rintro e w1 ⟨rfl, hg⟩; replace f0 := (hg.1.cell (p := ⟨g, o + k * 4, none⟩) (by have := hnx.size; dsimp only; omega)).trans f0; replace f1 := (hg.1.cell (p := ⟨g, o + k * 4 + 1, none⟩) (by have := hnx.size; dsimp only; omega)).trans f1; replace f2 := (hg.1.cell (p := ⟨g, o + k * 4 + 2, none⟩) (by have := hnx.size; dsimp only; omega)).trans f2; replace f3 := (hg.1.cell (p := ⟨g, o + k * 4 + 3, none⟩) (by have := hnx.size; dsimp only; omega)).trans f3; replace hown := ownsRow_below hown hg.1; replace hnx := Below.trans hnx (hg.1.mono hnx.size)) | (go_at_call 41; ((with_reducible refine (CE.out _).mono ?_)); rintro e w1 ⟨rfl, hg⟩; replace f0 := (hg.1.cell (p := ⟨g, o + k * 4, none⟩) (by have := hnx.size; dsimp only; omega)).trans f0; replace f1 := (hg.1.cell (p := ⟨g, o + k * 4 + 1, none⟩) (by have := hnx.size; dsimp only; omega)).trans f1; replace f2 := (hg.1.cell (p := ⟨g, o + k * 4 + 2, none⟩) (by have := hnx.size; dsimp only; omega)).trans f2; replace f3 := (hg.1.cell (p := ⟨g, o + k * 4 + 3, none⟩) (by have := hnx.size; dsimp only; omega)).trans f3; replace hown := ownsRow_below hown hg.1; replace hnx := Below.trans hnx (hg.1.mono hnx.size)))
        go_roundw
        case rel => exact ⟨k + 1, by omega, by omega, by simp, by rw [HM.out]; exact hown, hnx⟩
        case measure => simp [intOf]; omega
      · rw [r1] at cv
        rw [r4] at ce
        have CV := Lib.hid cv
        have CE := Lib.hid ce
        have e1 := hh.out r4
        have e2 : (kep L (k + 1)).length = (kep L k).length + 1 := by rw [e1]; simp
        have e3 : cellsR (kep L (k + 1)) = cellsR (kep L k) ++ [.int .i64 S.x, .int .i64 S.y, .int .i64 S.w, .int .i64 S.h] := by rw [e1, cellsR_append]; rfl
        have E2 := Lib.hid e2
        have E3 := Lib.hid e3
        clear cv ce r1 r2 r3 r4 hb hh hm e1 e2 e3
        go_wp2_with (first | (go_at_call 40; ((with_reducible refine (CV.out _).mono ?_)); rintro e w1 ⟨rfl, hg⟩; replace f0 := (hg.1.cell (p := ⟨g, o + k * 4, none⟩) (by have := hnx.size; dsimp only; omega)).trans f0; replace f1 := (hg.1.cell (p := ⟨g, o + k * 4 + 1, none⟩) (by have := hnx.size; dsimp only; omega)).trans f1; replace f2 := (hg.1.cell (p := ⟨g, o + k * 4 + 2, none⟩) (by have := hnx.size; dsimp only; omega)).trans f2; replace f3 := (hg.1.cell (p := ⟨g, o + k * 4 + 3, none⟩) (by have := hnx.size; dsimp only; omega)).trans f3; replace hown := ownsRow_below hown hg.1; replace hnx := Below.trans hnx (hg.1.mono hnx.size)) | (go_at_call 41; ((with_reducible refine (CE.out _).mono ?_)); rintro e w1 ⟨rfl, hg⟩; replace f0 := (hg.1.cell (p := ⟨g, o + k * 4, none⟩) (by have := hnx.size; dsimp only; omega)).trans f0; replace f1 := (hg.1.cell (p := ⟨g, o + k * 4 + 1, none⟩) (by have := hnx.size; dsimp only; omega)).trans f1; replace f2 := (hg.1.cell (p := ⟨g, o + k * 4 + 2, none⟩) (by have := hnx.size; dsimp only; omega)).trans f2; replace f3 := (hg.1.cell (p := ⟨g, o + k * 4 + 3, none⟩) (by have := hnx.size; dsimp only; omega)).trans f3; replace hown := ownsRow_below hown hg.1; replace hnx := Below.trans hnx (hg.1.mono hnx.size)) | (at_builtin; refine wpList_append_own _ rfl _ _ 22 rfl w.heap.size 33 i0 (.agg #[.int .i64 0, .int .i64 0, .int .i64 0, .int .i64 0]) 4 32 Try.underlying22 hi hz0' hz1 hz2 rfl (by decide) _ _ _ rfl (hown.alloc _) ⟨w1.heap.size, 0, none⟩ 1 1 [.int .i64 S.x, .int .i64 S.y, .int .i64 S.w, .int .i64 S.h] rfl rfl ?c1 ?c2 ?c3 ?c4 ?c5 ?_))
        case c1 =>
          intro j u hj
          match j, hj with
          | 0, hj => simp at hj; subst hj; simp [Addr.add]
          | 1, hj => simp at hj; subst hj; simp [Addr.add]
          | 2, hj => simp at hj; subst hj; simp [Addr.add]
          | 3, hj => simp at hj; subst hj; simp [Addr.add]
        case c2 => intro u hu; simp at hu; rcases hu with rfl | rfl | rfl | rfl <;> rfl
        case c3 => unfold maxLen; omega
        case c4 => omega
        case c5 => have := hnx.size; simp; omega
        intro v' w3 hown' hgrow _
        have hnx3 : Below w.heap.size w w3 := rel_append hnx hown (Gr.refl _) hnx.size hgrow
        rw [← E2.out, ← E3.out] at hown'
        clear hgrow hown hnx f0 f1 f2 f3
        go_wp2
        go_roundw
        case rel => exact ⟨k + 1, by omega, by omega, by simp, hown', hnx3⟩
        case measure => simp [intOf]; omega
    · have hend : kep L k = partF L := by
        unfold partF
        by_cases hkn : k = n
        · rw [kep_all L 256 (by rw [HN.out]; omega), HN.out, hkn]
        · rw [show k = 256 by omega]
      have HE := Lib.hid hend
      rcases (show ¬ k < n ∨ (k < n ∧ ¬ k < 256) by omega) with h1 | ⟨h1, h2⟩
      · go_wp2
        go_ret
        exact ⟨_, rfl, hnx, by rw [← HE.out]; exact hown⟩
      · go_wp2
        go_ret
        exact ⟨_, rfl, hnx, by rw [← HE.out]; exact hown⟩
end

section
open Go.RowKit
set_option maxHeartbeats 400000
set_option linter.unusedVariables false
/-- a rectangle of moderate numbers. -/
def Rc.mod (t : Rc) : Prop := (-4194304 ≤ t.x ∧ t.x ≤ 4194304) ∧ (-4194304 ≤ t.y ∧ t.y ≤ 4194304) ∧ (0 ≤ t.w ∧ t.w ≤ 4194304) ∧ (0 ≤ t.h ∧ t.h ≤ 4194304)
theorem setB_take (L : List Rc) (k : Nat) (hk : k < L.length) (x y : Int) : setB (L.take (k + 1)) x y = (setB (L.take k) x y || inB (L.getD k Rc.zero) x y) := by
  unfold setB
  rw [List.take_succ_eq_append_getElem hk, List.any_append, List.getD_eq_getElem?_getD, List.getElem?_eq_getElem hk]
  simp
theorem setB_sub (L : List Rc) (k : Nat) (x y : Int) (h : setB (L.take k) x y = true) : setB L x y = true := by
  obtain ⟨t, ht, h1⟩ := (setB_iff _ _ _).1 h
  exact (setB_iff _ _ _).2 ⟨t, List.mem_of_mem_take ht, h1⟩
set_option maxHeartbeats 2000000 in
set_option maxRecDepth 100000 in
theorem gHolds (v : Value) (L : List Rc) (x y : Int) (B : Nat) (w : World) (hx : -4194304 ≤ x ∧ x ≤ 4194304) (hy : -4194304 ≤ y ∧ y ≤ 4194304) (hL : ∀ t ∈ L, t.mod) (hl : L.length ≤ 1048576) (h : argR w B v L) :
    Calls Try.prog 51 #[v, .int .i64 x, .int .i64 y] w fun e w' => e = .returned (.bool (setB L x y)) ∧ ∃ q, w' = w.drewN q := by
  obtain ⟨ao, cap, rfl, h⟩ := h
  obtain ⟨n, hn⟩ : ∃ n, L.length = n := ⟨_, rfl⟩
  rw [hn] at h hl ⊢
  have HN := Lib.hid hn
  have H := Lib.hid h
  have HB := Lib.hid hL
  clear h hn hL
  obtain ⟨hx1, hx2⟩ := hx
  obtain ⟨hy1, hy2⟩ := hy
  go_enter Try.func51, Try.ntmps51
  go_wp2
  go_loopw [10] (fun i wr => ∃ k : Nat, k ≤ n ∧ i = .int .i64 (k : Int) ∧ setB (L.take k) x y = false ∧ ∃ q, wr = w.drewN q) (fun i _ => (n - (intOf i).toNat))
  case atStart => exact ⟨0, by omega, rfl, rfl, 0, rfl⟩
  case round =>
    obtain ⟨k, hk, rfl, hno, q, rfl⟩ := hrel
    by_cases hlt : k < n
    · obtain ⟨g, o, rfl, hblk, hc⟩ := H.out (by omega)
      obtain ⟨f0, f1, f2, f3⟩ := hc k hlt
      obtain ⟨⟨b1, b2⟩, ⟨b3, b4⟩, ⟨b5, b6⟩, ⟨b7, b8⟩⟩ := HB.out _ (getR_mem (L := L) (k := k) (by rw [HN.out]; exact hlt))
      have tk := setB_take L k (by rw [HN.out]; exact hlt) x y
      generalize L.getD k Rc.zero = S at *
      have kk : IntKind.i64.wrap ((k : Int) + 1) = (k : Int) + 1 := IntWalk.i64_in _ (by omega)
      have k1 : IntKind.i64.wrap (x - S.x) = x - S.x := IntWalk.i64_in _ (by omega)
      have k2 : IntKind.i64.wrap (y - S.y) = y - S.y := IntWalk.i64_in _ (by omega)
      have TK := Lib.hid tk
      have HN0 := Lib.hid hno
      clear tk hno hc
      by_cases c1 : S.x ≤ x
      · by_cases c2 : x - S.x < S.w
        · by_cases c3 : S.y ≤ y
          · by_cases c4 : y - S.y < S.h
            · have hin : inB S x y = true := by unfold inB; simp; omega
              have hyes : setB L x y = true := setB_sub L (k + 1) x y (by rw [TK.out, hin, Bool.or_true])
              have HY := Lib.hid hyes
              clear hyes hin
              go_wp2
              go_quiet (fail)
              go_wp2
              go_ret
              exact ⟨ret_bool HY.out.symm, _, by first | rfl | exact World.drewN_drewN _ _ _⟩
            · have hin : inB S x y = false := by unfold inB; simp; omega
              have hd := decide_eq_false (p := y - S.y < S.h) (by assumption)
              have HI := Lib.hid hin
              clear hin
              go_wp2
              go_quiet (fail)
              go_wp2
              go_roundw
              case rel => exact ⟨k + 1, by omega, by simp, by rw [TK.out, HI.out, HN0.out]; rfl, _, rfl⟩
              case measure => simp [intOf]; omega
          · have hin : inB S x y = false := by unfold inB; simp; omega
            have hd := decide_eq_false (p := S.y ≤ y) (by assumption)
            have HI := Lib.hid hin
            clear hin
            go_wp2
            go_quiet (fail)
            go_wp2
            go_roundw
            case rel => exact ⟨k + 1, by omega, by simp, by rw [TK.out, HI.out, HN0.out]; rfl, _, rfl⟩
            case measure => simp [intOf]; omega
        · have hin : inB S x y = false := by unfold inB; simp; omega
          have hd := decide_eq_false (p := x - S.x < S.w) (by assumption)
          have HI := Lib.hid hin
          clear hin
          go_wp2
          go_quiet (fail)
          go_wp2
          go_roundw
          case rel => exact ⟨k + 1, by omega, by simp, by rw [TK.out, HI.out, HN0.out]; rfl, _, rfl⟩
          case measure => simp [intOf]; omega
      · have hin : inB S x y = false := by unfold inB; simp; omega
        have hd := decide_eq_false (p := S.x ≤ x) (by assumption)
        have HI := Lib.hid hin
        clear hin
        go_wp2
        go_quiet (fail)
        go_wp2
        go_roundw
        case rel => exact ⟨k + 1, by omega, by simp, by rw [TK.out, HI.out, HN0.out]; rfl, _, rfl⟩
        case measure => simp [intOf]; omega
    · obtain rfl : k = n := by omega
      have hall : setB L x y = false := by rw [← List.take_length (l := L), HN.out]; exact hno
      have HA := Lib.hid hall
      clear hall hno
      go_wp2
      go_ret
      exact ⟨ret_bool HA.out.symm, q, rfl⟩
end

section
open Go.RowKit
set_option maxHeartbeats 400000
set_option linter.unusedVariables false
theorem cols_getD (l : List Rc) (k : Nat) (h : k < l.length) : (colsF l)[k]? = some ((l.getD k Rc.zero).x, (l.getD k Rc.zero).w) := by
  unfold colsF
  rw [List.getElem?_map, List.getD_eq_getElem?_getD, List.getElem?_eq_getElem h]
  rfl
theorem cols_len (l : List Rc) : (colsF l).length = l.length := by unfold colsF; exact List.length_map ..
theorem cols_ne {a b : List Rc} {k : Nat} (ha : k < a.length) (hb : k < b.length) (h : ¬ ((a.getD k Rc.zero).x = (b.getD k Rc.zero).x ∧ (a.getD k Rc.zero).w = (b.getD k Rc.zero).w)) : ¬ colsF a = colsF b := by
  intro e
  have h1 := cols_getD a k ha
  rw [e, cols_getD b k hb] at h1
  simp only [Option.some.injEq, Prod.mk.injEq] at h1
  exact h ⟨h1.1.symm, h1.2.symm⟩
theorem cols_eq {a b : List Rc} (hl : a.length = b.length) (h : ∀ k, k < a.length → (a.getD k Rc.zero).x = (b.getD k Rc.zero).x ∧ (a.getD k Rc.zero).w = (b.getD k Rc.zero).w) : colsF a = colsF b := by
  refine List.ext_getElem? fun k => ?_
  by_cases hk : k < a.length
  · rw [cols_getD a k hk, cols_getD b k (by omega), (h k hk).1, (h k hk).2]
  · rw [List.getElem?_eq_none (by rw [cols_len]; omega), List.getElem?_eq_none (by rw [cols_len]; omega)]
set_option maxHeartbeats 4000000 in
set_option maxRecDepth 100000 in
theorem gAlike (u v : Value) (a b : List Rc) (B B' : Nat) (w : World) (la : a.length ≤ 1048576) (lb : b.length ≤ 1048576) (ga : argR w B u a) (gb : argR w B' v b) :
    Calls Try.prog 63 #[u, v] w fun e w' => e = .returned (.bool (decide (colsF a = colsF b))) ∧ ∃ q, w' = w.drewN q := by
  obtain ⟨ao, cap, rfl, h⟩ := ga
  obtain ⟨bo, cap2, rfl, h'⟩ := gb
  obtain ⟨n, hn⟩ : ∃ n, a.length = n := ⟨_, rfl⟩
  obtain ⟨m, hm⟩ : ∃ m, b.length = m := ⟨_, rfl⟩
  rw [hn] at h la ⊢
  rw [hm] at h' lb ⊢
  have HN := Lib.hid hn
  have HM := Lib.hid hm
  have H := Lib.hid h
  have H' := Lib.hid h'
  clear h h' hn hm
  by_cases hnm : n = m
  · subst hnm
    go_enter Try.func63, Try.ntmps63
    go_wp2
    go_loopw [13] (fun i wr => ∃ k : Nat, k ≤ n ∧ i = .int .i64 (k : Int) ∧ (∀ j, j < k → (a.getD j Rc.zero).x = (b.getD j Rc.zero).x ∧ (a.getD j Rc.zero).w = (b.getD j Rc.zero).w) ∧ ∃ q, wr = w.drewN q) (fun i _ => (n - (intOf i).toNat))
    case atStart => exact ⟨0, by omega, rfl, fun j hj => absurd hj (Nat.not_lt_zero j), 0, rfl⟩
    case round =>
      obtain ⟨k, hk, rfl, hsm, q, rfl⟩ := hrel
      have HS := Lib.hid hsm
      clear hsm
      by_cases hlt : k < n
      · obtain ⟨g, o, rfl, hblk, hc⟩ := H.out (by omega)
        obtain ⟨g', o', rfl, hblk', hc'⟩ := H'.out (by omega)
        obtain ⟨f0, f1, f2, f3⟩ := hc k hlt
        obtain ⟨h0, h1, h2, h3⟩ := hc' k hlt
        have NE := Lib.hid (cols_ne (a := a) (b := b) (k := k) (by rw [HN.out]; exact hlt) (by rw [HM.out]; exact hlt))
        have EX := Lib.hid (fun (e : (a.getD k Rc.zero).x = (b.getD k Rc.zero).x ∧ (a.getD k Rc.zero).w = (b.getD k Rc.zero).w) j (hj : j < k + 1) => (show (a.getD j Rc.zero).x = (b.getD j Rc.zero).x ∧ (a.getD j Rc.zero).w = (b.getD j Rc.zero).w from by
          rcases Nat.lt_or_eq_of_le (Nat.le_of_lt_succ hj) with h | h
          · exact HS.out j h
          · rw [h]; exact e))
        generalize a.getD k Rc.zero = S at *
        generalize b.getD k Rc.zero = T at *
        have kk : IntKind.i64.wrap ((k : Int) + 1) = (k : Int) + 1 := IntWalk.i64_in _ (by omega)
        clear hc hc' f1 f3 h1 h3
        by_cases e1 : S.x = T.x
        · by_cases e2 : S.w = T.w
          · have EY := Lib.hid (EX.out ⟨e1, e2⟩)
            rw [← e1] at h0
            rw [← e2] at h2
            clear e1 e2 EX NE HS
            go_wp2
            go_quiet (fail)
            go_wp2
            go_roundw
            case rel => exact ⟨k + 1, by omega, by simp, EY.out, _, rfl⟩
            case measure => simp [intOf]; omega
          · have HF := Lib.hid (decide_eq_false (NE.out fun h => e2 h.2))
            have hd : (S.w == T.w) = false := by simp [e2]
            rw [← e1] at h0
            clear e1 EX NE HS
            go_wp2
            go_quiet (fail)
            go_wp2
            go_ret
            exact ⟨ret_bool HF.out.symm, _, by first | rfl | exact World.drewN_drewN _ _ _⟩
        · have HF := Lib.hid (decide_eq_false (NE.out fun h => e1 h.1))
          have hd : (S.x == T.x) = false := by simp [e1]
          clear EX NE HS
          go_wp2
          go_quiet (fail)
          go_wp2
          go_ret
          exact ⟨ret_bool HF.out.symm, _, by first | rfl | exact World.drewN_drewN _ _ _⟩
      · obtain rfl : k = n := by omega
        have HT := Lib.hid (decide_eq_true (cols_eq (a := a) (b := b) (by rw [HN.out, HM.out]) (by rw [HN.out]; exact HS.out)))
        clear HS
        go_wp2
        go_ret
        exact ⟨ret_bool HT.out.symm, _, rfl⟩
  · have hne : decide (colsF a = colsF b) = false := decide_eq_false fun e => hnm (by have := congrArg List.length e; rw [cols_len, cols_len, HN.out, HM.out] at this; exact this)
    have HE := Lib.hid hne
    have h1 : ¬ ((n : Int) = (m : Int)) := by omega
    clear hne
    go_enter Try.func63, Try.ntmps63
    go_wp2
    go_ret
    exact ⟨ret_bool HE.out.symm, 0, rfl⟩
end

section
open Go.RowKit
set_option maxHeartbeats 400000
set_option linter.unusedVariables false
/-- a slice's block is another one's, or it is new in w. -/
def Moved (w : World) (v v' : Value) : Prop := v'.ownBlock = v.ownBlock ∨ ∀ g, v'.ownBlock = some g → w.heap.size ≤ g
theorem grown_weaken {w w' : World} {r : Option Nat} (h : w.grownBy w' none) : w.grownBy w' r := ⟨h.os, h.tape, h.output, h.size, fun k hk _ => h.block k hk (by simp)⟩
/-- an append to a row of one's own, which tells of its block: the old one, or a new one. -/
theorem run_append_two {P : Program} (w : World) (base : Nat) (t ty e : TypeId) (i : TypeInfo) (z : Value) (size bytes : Nat) (ht : P.underlying t = some (.slice e)) (hi : P.info? e = some i) (hz : i.zero = some z)
    (hsize : i.size = size) (hby : i.bytes = bytes) (hzs : z.cells.size = size) (hsz : 0 < size)
    (v : Value) (n : Nat) (xs : List Value) (hown : w.ownsRow base e size v n xs)
    (a : Addr) (m c : Nat) (news : List Value) (hl : news.length = m * size) (hnews : ∀ j u, news[j]? = some u → w.cell? (a.add j) = some u) (h1 : ∀ u ∈ news, u.oneCell' = true)
    (h63 : n + m ≤ maxLen) (hbytes : (n + m) * bytes ≤ 140737488355328) (hbase : base ≤ w.heap.size) :
    ∃ v' w', (Builtin.append_ #[t, t] ty #[v, .slice (some a) m c]).run P w = .ok v' w' ∧ w'.ownsRow base e size v' (n + m) (xs ++ news) ∧ w.grownBy w' v.ownBlock ∧ Moved w v v' := by
  have hown0 := hown
  obtain ⟨hlen, hcase⟩ := hown
  rcases hcase with ⟨rfl, rfl⟩ | ⟨g, cap, cur, rfl, hb, hg, hnc, hcm, hcs, htake⟩
  · obtain rfl : xs = [] := List.eq_nil_of_length_eq_zero (by simpa using hlen)
    obtain ⟨v', w', h2, h3, h4, _⟩ := run_append_own (P := P) w w.heap.size t ty e i z size bytes ht hi hz hsize hby hzs hsz (.slice none 0 0) 0 [] (World.ownsRow_nil w _ e size) a m c news hl hnews h1 h63 hbytes (Nat.le_refl _)
    exact ⟨v', w', h2, h3.mono hbase, h4, Or.inr fun g hg => (h3.lt g hg).1⟩
  · by_cases hroom : n + m ≤ cap
    · obtain ⟨v', w', h2, h3, h4, _⟩ := run_append_own (P := P) w base t ty e i z size bytes ht hi hz hsize hby hzs hsz _ n xs hown0 a m c news hl hnews h1 h63 hbytes hbase
      have hr := run_append_room (P := P) w t ty e i ht hi g n cap cur hg a m c news (by rw [hsize]; exact hl) hnews h1 hroom (by
        rw [hsize, hl, hcs, ← Nat.add_mul]
        exact Nat.mul_le_mul_right _ hroom)
      rw [hr] at h2
      injection h2 with e1 e2
      subst e1
      exact ⟨_, w', by rw [hr, e2], h3, h4, Or.inl rfl⟩
    · obtain ⟨v', w', h2, h3, h4⟩ := run_append_arg_grows (P := P) w t ty e i z size bytes ht hi hz hsize hby hzs hsz ⟨g, 0, none⟩ n cap xs hlen (fun j u hj => by
        exact hown0.cells rfl j u hj) a m c news hl hnews (by omega) h63 hbytes
      exact ⟨v', w', h2, h3.mono hbase, grown_weaken h4, Or.inr fun g' hg' => (h3.lt g' hg').1⟩
/-- .. as a step of a region that draws its order. -/
theorem step_append_two {P : Program} {ops : Array Oper} {o : Oper} {act : Act} {K : Act → World → Prop} {Q : Exit → Act → World → Prop} {E : Prop} (w : World) (hgd : o.guard = none) (s x : Operand) (t : TypeId)
    (ho : o.op = Op.call { callee := Callee.builtin Builtin.append, args := #[s, x], argTypes := #[t, t] })
    (base : Nat) (e : TypeId) (i : TypeInfo) (z : Value) (size bytes : Nat) (ht : P.underlying t = some (.slice e)) (hi : P.info? e = some i) (hz : i.zero = some z)
    (hsize : i.size = size) (hby : i.bytes = bytes) (hzs : z.cells.size = size) (hsz : 0 < size)
    (v : Value) (n : Nat) (xs : List Value) (hs : act.eval s = v) (hown : w.ownsRow base e size v n xs)
    (a : Addr) (m c : Nat) (news : List Value) (hx : act.eval x = .slice (some a) m c) (hl : news.length = m * size) (hnews : ∀ j u, news[j]? = some u → w.cell? (a.add j) = some u) (h1 : ∀ u ∈ news, u.oneCell' = true)
    (h63 : n + m ≤ maxLen) (hbytes : (n + m) * bytes ≤ 140737488355328) (hbase : base ≤ w.heap.size)
    (hK : ∀ v' w', w'.ownsRow base e size v' (n + m) (xs ++ news) → w.grownBy w' v.ownBlock → Moved w v v' → K (act.put o.dst v') w') :
    if Region.wanted o (yielded ops act.tmps) = true then Oper.wp P o act w K Q else E := by
  have hw : Region.wanted o (yielded ops act.tmps) = true := by simp [Region.wanted, hgd]
  rw [if_pos hw]
  obtain ⟨v', w', hrun, r1, r2, r3⟩ := run_append_two (P := P) w base t o.type e i z size bytes ht hi hz hsize hby hzs hsz v n xs hown a m c news hl hnews h1 h63 hbytes hbase
  unfold Oper.wp
  simp [execOp, ho, resolve, invoke, builtin, hs, hx, hrun, Result.andThen]
  exact hK v' w' r1 r2 r3
/-- .. as the next operation of a list. -/
theorem wpList_append_two {P : Program} {ops : Array Oper} {rest : List Oper} {o : Oper} {act : Act} {Q : Exit → Act → World → Prop} (w : World) (hgd : o.guard = none) (s x : Operand) (t : TypeId)
    (ho : o.op = Op.call { callee := Callee.builtin Builtin.append, args := #[s, x], argTypes := #[t, t] })
    (base : Nat) (e : TypeId) (i : TypeInfo) (z : Value) (size bytes : Nat) (ht : P.underlying t = some (.slice e)) (hi : P.info? e = some i) (hz : i.zero = some z)
    (hsize : i.size = size) (hby : i.bytes = bytes) (hzs : z.cells.size = size) (hsz : 0 < size)
    (v : Value) (n : Nat) (xs : List Value) (hs : act.eval s = v) (hown : w.ownsRow base e size v n xs)
    (a : Addr) (m c : Nat) (news : List Value) (hx : act.eval x = .slice (some a) m c) (hl : news.length = m * size) (hnews : ∀ j u, news[j]? = some u → w.cell? (a.add j) = some u) (h1 : ∀ u ∈ news, u.oneCell' = true)
    (h63 : n + m ≤ maxLen) (hbytes : (n + m) * bytes ≤ 140737488355328) (hbase : base ≤ w.heap.size)
    (hK : ∀ v' w', w'.ownsRow base e size v' (n + m) (xs ++ news) → w.grownBy w' v.ownBlock → Moved w v v' → wpList P ops Q rest (act.put o.dst v') w') : wpList P ops Q (o :: rest) act w :=
  wpList_plain hgd fun K hK' => by
    obtain ⟨v', w', hrun, r1, r2, r3⟩ := run_append_two (P := P) w base t o.type e i z size bytes ht hi hz hsize hby hzs hsz v n xs hown a m c news hl hnews h1 h63 hbytes hbase
    unfold Oper.wp
    simp [execOp, ho, resolve, invoke, builtin, hs, hx, hrun, Result.andThen]
    exact hK' _ _ (hK v' w' r1 r2 r3)
/-- two rows of one's own in blocks apart. -/
def Apart2 (v u : Value) : Prop := v.ownBlock = none ∨ v.ownBlock ≠ u.ownBlock
theorem apart_moved {w : World} {base : Nat} {e : TypeId} {size n : Nat} {v v' u : Value} {xs : List Value} (h : Apart2 u v) (hu : w.ownsRow base e size u n xs) (hm : Moved w v v') : Apart2 u v' := by
  rcases hm with hm | hm
  · unfold Apart2
    rw [hm]
    exact h
  · cases hb : u.ownBlock with
    | none => exact Or.inl hb
    | some g =>
      right
      rw [hb]
      intro he
      have h1 := hm g he.symm
      have h2 := (hu.lt g hb).2
      omega
end

section
open Go.RowKit
set_option maxHeartbeats 400000
set_option linter.unusedVariables false
/-- a list of numbers that lies at a slice, in a block below B. -/
def argI (W : World) (B : Nat) (v : Value) (l : List Int) : Prop :=
  ∃ ao cap, v = .slice ao l.length cap ∧ (0 < l.length → ∃ g o, ao = some ⟨g, o, none⟩ ∧ g < B ∧ ∀ k, k < l.length → W.cell? ⟨g, o + k, none⟩ = some (.int .i64 (l.getD k 0)))
def cellsI (l : List Int) : List Value := l.map fun z => .int .i64 z
theorem cellsI_len (l : List Int) : (cellsI l).length = l.length := by unfold cellsI; exact List.length_map ..
theorem cellsI_at (l : List Int) (k : Nat) (h : k < l.length) : (cellsI l)[k]? = some (.int .i64 (l.getD k 0)) := by
  unfold cellsI
  rw [List.getElem?_map, List.getD_eq_getElem?_getD, List.getElem?_eq_getElem h]
  rfl
theorem cellsI_append (a b : List Int) : cellsI (a ++ b) = cellsI a ++ cellsI b := List.map_append
theorem infoI : (Try.prog.info? 3).map (fun i => (i.zero, i.size, i.bytes)) = some (some (.int .i64 0), 1, 8) := by kernel_rfl
theorem ins_split (x : Int) : ∀ (k : Nat) (S : List Int), k ≤ S.length → (∀ j, j < k → S.getD j 0 < x) → (k < S.length → ¬ S.getD k 0 < x) →
    insU x S = if k < S.length ∧ S.getD k 0 = x then S else S.take k ++ x :: S.drop k
  | 0, [], _, _, _ => rfl
  | 0, y :: S, _, _, h2 => by
    have h3 : ¬ y < x := h2 (by simp)
    unfold insU
    rw [if_neg h3]
    simp
  | k + 1, [], hk, _, _ => absurd hk (by simp)
  | k + 1, y :: S, hk, h1, h2 => by
    have h3 : y < x := h1 0 (by omega)
    have ih := ins_split x k S (by simpa using hk) (fun j hj => h1 (j + 1) (by omega)) (fun h => h2 (by simpa using h))
    unfold insU
    rw [if_pos h3, ih]
    simp only [List.length_cons, Nat.succ_lt_succ_iff, List.getD_cons_succ, List.take_succ_cons, List.drop_succ_cons, List.cons_append]
    split <;> rfl
theorem sorted_take (l : List Int) (k : Nat) (h : k < l.length) : sortedF (l.take (k + 1)) = insU (l.getD k 0) (sortedF (l.take k)) := by
  unfold sortedF
  rw [List.take_succ_eq_append_getElem h, List.foldl_append, List.getD_eq_getElem?_getD, List.getElem?_eq_getElem h]
  rfl
theorem insU_len (x : Int) : ∀ S : List Int, (insU x S).length ≤ S.length + 1
  | [] => by simp [insU]
  | y :: S => by
    unfold insU
    have := insU_len x S
    split
    · simp; omega
    · split <;> simp
theorem sorted_len (l : List Int) : ∀ k, (sortedF (l.take k)).length ≤ k
  | 0 => by simp [sortedF]
  | k + 1 => by
    have ih := sorted_len l k
    by_cases h : k < l.length
    · rw [sorted_take l k h]
      have := insU_len (l.getD k 0) (sortedF (l.take k))
      omega
    · rw [List.take_of_length_le (by omega)]
      rw [List.take_of_length_le (by omega)] at ih
      omega
theorem row_form {W : World} {base n size : Nat} {e : TypeId} {v : Value} {xs : List Value} (h : W.ownsRow base e size v n xs) : ∃ ao cap, v = .slice ao n cap ∧ (0 < n → ∃ g, ao = some ⟨g, 0, none⟩) ∧ n ≤ cap ∧ cap ≤ maxLen := by
  rcases h.2 with ⟨rfl, rfl⟩ | ⟨g, cap, cur, rfl, _, _, h3, h4, _⟩
  · exact ⟨none, 0, rfl, fun h => absurd h (Nat.lt_irrefl 0), Nat.le_refl _, by decide⟩
  · exact ⟨_, cap, rfl, fun _ => ⟨g, rfl⟩, h3, h4⟩
/-- one step of the shift. -/
theorem shift_set (S : List Int) (j : Nat) (e : Int) (hj : j + 1 ≤ S.length) : (S.take (j + 1) ++ e :: S.drop (j + 1)).set (j + 1) (S.getD j 0) = S.take j ++ (S.getD j 0) :: S.drop j := by
  have h1 : S.take (j + 1) = S.take j ++ [S.getD j 0] := by
    rw [List.take_succ_eq_append_getElem (by omega), List.getD_eq_getElem?_getD, List.getElem?_eq_getElem (by omega)]
    rfl
  have h2 : S.drop j = S.getD j 0 :: S.drop (j + 1) := by
    rw [List.drop_eq_getElem_cons (by omega), List.getD_eq_getElem?_getD, List.getElem?_eq_getElem (by omega)]
    rfl
  rw [List.set_append_right _ _ (by rw [List.length_take]; omega), List.length_take, Nat.min_eq_left (by omega), Nat.sub_self, List.set_cons_zero, h1, h2, List.append_assoc]
  rfl
theorem shift_end (S : List Int) (k : Nat) (e x : Int) (hk : k ≤ S.length) : (S.take k ++ e :: S.drop k).set k x = S.take k ++ x :: S.drop k := by
  rw [List.set_append_right _ _ (by rw [List.length_take]; omega), List.length_take, Nat.min_eq_left hk, Nat.sub_self, List.set_cons_zero]
theorem shift_at (S : List Int) (j : Nat) (e : Int) (hj : j + 1 ≤ S.length) : (S.take (j + 1) ++ e :: S.drop (j + 1)).getD j 0 = S.getD j 0 := by
  rw [List.getD_eq_getElem?_getD, List.getD_eq_getElem?_getD, List.getElem?_append_left (by rw [List.length_take]; omega), List.getElem?_take, if_pos (by omega)]
theorem cells_set (l : List Int) (j : Nat) (x : Int) : (cellsI l).set j (.int .i64 x) = cellsI (l.set j x) := by unfold cellsI; exact (List.map_set ..).symm
set_option maxHeartbeats 4000000 in
set_option maxRecDepth 100000 in
theorem gSorted (v : Value) (l : List Int) (w : World) (hl : l.length ≤ 1048576) (h : argI w w.heap.size v l) :
    Calls Try.prog 61 #[v] w fun e w' => ∃ u, e = .returned u ∧ Below w.heap.size w w' ∧ w'.ownsRow w.heap.size 3 1 u (sortedF l).length (cellsI (sortedF l)) := by
  obtain ⟨ao, cap, rfl, h⟩ := h
  obtain ⟨n, hn⟩ : ∃ n, l.length = n := ⟨_, rfl⟩
  rw [hn] at h hl ⊢
  have HN := Lib.hid hn
  have H := Lib.hid h
  clear h hn
  obtain ⟨i0, hi, hz0', hz1, hz2⟩ := info_parts infoI
  go_enter Try.func61, Try.ntmps61
  go_wp2
  go_loopw [3, 9] (fun s i wr => ∃ k : Nat, k ≤ n ∧ i = .int .i64 (k : Int) ∧ wr.ownsRow w.heap.size 3 1 s (sortedF (l.take k)).length (cellsI (sortedF (l.take k))) ∧ Below w.heap.size w wr) (fun _ i _ => (n - (intOf i).toNat))
  case atStart => exact ⟨0, by omega, rfl, World.ownsRow_nil _ _ _ _, Below.refl _ _⟩
  case round =>
    obtain ⟨k, hk, rfl, hown, hnx⟩ := hrel
    by_cases hlt : k < n
    · obtain ⟨g, o, rfl, hblk, hc⟩ := H.out (by omega)
      have fx := (hnx.cell (p := ⟨g, o + k, none⟩) hblk).trans (hc k hlt)
      have F0 := Lib.hid (hc k hlt)
      have st := sorted_take l k (by rw [HN.out]; exact hlt)
      have sl := sorted_len l k
      generalize l.getD k 0 = x at *
      have ST := Lib.hid st
      clear st hc
      generalize sortedF (l.take k) = S at *
      obtain ⟨so, sc, hv, hso, hsc, hsc2⟩ := row_form hown
      subst hv
      have HSO := Lib.hid hso
      have kk : IntKind.i64.wrap ((k : Int) + 1) = (k : Int) + 1 := IntWalk.i64_in _ (by omega)
      clear hso
      go_wp2
      go_loopw [5] (fun i wi => ∃ j : Nat, j ≤ S.length ∧ i = .int .i64 (j : Int) ∧ (∀ t, t < j → S.getD t 0 < x) ∧ ∃ q, wi = wr.drewN q) (fun i _ => (S.length - (intOf i).toNat))
      case atStart => exact ⟨0, by omega, rfl, fun t ht => absurd ht (Nat.not_lt_zero t), 0, rfl⟩
      case round =>
        obtain ⟨j, hj, rfl, hless, q, rfl⟩ := hrel
        by_cases hjl : j < S.length
        · obtain ⟨gs, rfl⟩ := HSO.out (by omega)
          have fs := (hown.cellAt j (by omega)).trans (cellsI_at S j hjl)
          have sp := Lib.hid (ins_split x j S hj hless)
          have LS := Lib.hid hless
          obtain ⟨z, hz⟩ : ∃ z, S.getD j 0 = z := ⟨_, rfl⟩
          rw [hz] at fs
          have HZ := Lib.hid hz
          clear hless hz
          have jj : IntKind.i64.wrap ((j : Int) + 1) = (j : Int) + 1 := IntWalk.i64_in _ (by omega)
          by_cases hc : z < x
          · have LN := Lib.hid (fun t (ht : t < j + 1) => (show S.getD t 0 < x from by
              rcases Nat.lt_or_eq_of_le (Nat.le_of_lt_succ ht) with h | h
              · exact LS.out t h
              · rw [h, HZ.out]; exact hc))
            have hd := decide_eq_true hc
            clear LS sp
            go_wp2
            go_quiet (fail)
            go_wp2
            go_roundw
            case rel => exact ⟨j + 1, by omega, by simp, LN.out, _, by first | rfl | exact World.drewN_drewN _ _ _⟩
            case measure => simp [intOf]; omega
          · have hd := decide_eq_false (p := z < x) hc
            by_cases he : z = x
            · have E := Lib.hid ((sp.out fun _ => by rw [HZ.out]; exact hc).trans (if_pos ⟨hjl, HZ.out.trans he⟩))
              subst he
              clear sp LS hc
              go_wp2
              go_quiet (fail)
              go_wp2
              go_quiet (fail)
              go_wp2
              refine ⟨⟨k + 1, by omega, by simp, ?_, ?_⟩, by simp [intOf]; omega⟩
              · rw [ST.out, E.out]
                exact ownsRow_below hown (Gr.drewN (Gr.refl _) _).1
              · exact Below.trans hnx ((Gr.drewN (Gr.refl _) _).1.mono hnx.size)
            · have hd2 : (z == x) = false := by simp [he]
              have E := Lib.hid ((sp.out fun _ => by rw [HZ.out]; exact hc).trans (if_neg fun h => he (HZ.out.symm.trans h.2)))
              clear sp LS hc
              go_wp2
              go_quiet (fail)
              go_wp2
              go_quiet (fail)
              go_wp2_with (first | (at_builtin; refine wpList_append_own _ rfl _ _ 54 rfl w.heap.size 3 i0 (.int .i64 0) 1 8 Try.underlying54 hi hz0' hz1 hz2 rfl (by decide) _ _ _ rfl ((ownsRow_below hown (Gr.drewN (Gr.refl _) _).1).alloc _) ⟨wr.heap.size, 0, none⟩ 1 1 [.int .i64 0] rfl rfl ?c1 ?c2 ?c3 ?c4 ?c5 ?_))
              case c1 =>
                intro j u hj
                match j, hj with
                | 0, hj => simp at hj; subst hj; exact (World.cell?_alloc_at _ _ _ _ (by show _ = (World.drewN _ _).heap.size; rw [(World.drewN_alike _ _).1])).trans rfl
              case c2 => intro u hu; simp at hu; rcases hu with rfl; rfl
              case c3 => unfold maxLen; omega
              case c4 => omega
              case c5 => have := hnx.size; simp; omega
              intro v' w3 hown' hgrow _
              have hnx3 : Below w.heap.size w w3 := rel_append hnx hown (Gr.drewN (Gr.refl _) _) hnx.size hgrow
              obtain ⟨vo, vc, hv, hvo, hvc, hvc2⟩ := row_form hown'
              obtain ⟨g2, rfl⟩ := hvo (by omega)
              subst hv
              have hown3 : w3.ownsRow w.heap.size 3 1 (.slice (some ⟨g2, 0, none⟩) (S.length + 1) vc) (S.length + 1) (cellsI (S.take S.length ++ (0 : Int) :: S.drop S.length)) := by
                rw [List.take_length, List.drop_length, cellsI_append]
                exact hown'
              have hlj : IntKind.i64.wrap (((S.length + 1 : Nat) : Int) - 1) = (S.length : Int) := (IntWalk.i64_in _ (by omega)).trans (by omega)
              have HNX := Lib.hid hnx
              clear hown' hgrow hown hnx fx hvo
              go_wp2
              go_loopw [6] (fun i wi => ∃ m : Nat, j ≤ m ∧ m ≤ S.length ∧ i = .int .i64 (m : Int) ∧ (∃ e, wi.ownsRow w.heap.size 3 1 (.slice (some ⟨g2, 0, none⟩) (S.length + 1) vc) (S.length + 1) (cellsI (S.take m ++ e :: S.drop m))) ∧ Below w.heap.size w wi) (fun i _ => (intOf i).toNat)
              case atStart => exact ⟨S.length, by omega, Nat.le_refl _, by simp, ⟨0, hown3⟩, hnx3⟩
              case round =>
                clear hown3 hnx3
                obtain ⟨m, hm1, hm2, rfl, ⟨e, hown⟩, hnx⟩ := hrel
                have hlen : (S.take m ++ e :: S.drop m).length = S.length + 1 := by rw [List.length_append, List.length_take, List.length_cons, List.length_drop]; omega
                have fe := (hown.cellAt m (by omega)).trans (cellsI_at _ m (by omega))
                have fz := hown.frozenAt m
                by_cases hgt : j < m
                · obtain ⟨m', rfl⟩ : ∃ m', m = m' + 1 := ⟨m - 1, by omega⟩
                  have fl := (hown.cellAt m' (by omega)).trans (cellsI_at _ m' (by omega))
                  rw [shift_at S m' e hm2] at fl
                  have hst := fun (W : World) (h : W.ownsRow w.heap.size 3 1 (.slice (some ⟨g2, 0, none⟩) (S.length + 1) vc) (S.length + 1) (cellsI (S.take (m' + 1) ++ e :: S.drop (m' + 1)))) => (h.stored (m' + 1) (.int .i64 (S.getD m' 0))).1
                  rw [cells_set, shift_set S m' e hm2] at hst
                  have HST := Lib.hid hst
                  have hge := (hown.lt g2 rfl).1
                  generalize S.getD m' 0 = z' at *
                  generalize (S.take (m' + 1) ++ e :: S.drop (m' + 1)).getD (m' + 1) 0 = e' at *
                  have k1 : IntKind.i64.wrap (((m' : Int) + 1) - 1) = (m' : Int) := (IntWalk.i64_in _ (by omega)).trans (by omega)
                  clear hst hlen
                  go_wp2
                  refine ⟨⟨m', by omega, by omega, rfl, ⟨z', HST.out _ hown⟩, hnx.setCell (by dsimp only; omega) _⟩, by simp [intOf]⟩
                · obtain rfl : m = j := by omega
                  have hst := fun (W : World) (h : W.ownsRow w.heap.size 3 1 (.slice (some ⟨g2, 0, none⟩) (S.length + 1) vc) (S.length + 1) (cellsI (S.take m ++ e :: S.drop m))) => (h.stored m (.int .i64 x)).1
                  rw [cells_set, shift_end S m e x (by omega)] at hst
                  have HST := Lib.hid hst
                  have hge := (hown.lt g2 rfl).1
                  generalize (S.take m ++ e :: S.drop m).getD m 0 = e' at *
                  have HL := Lib.hid (show (S.take m ++ x :: S.drop m).length = S.length + 1 by rw [List.length_append, List.length_take, List.length_cons, List.length_drop]; omega)
                  clear hst hlen
                  have fx := (hnx.cell (p := ⟨g, o + k, none⟩) hblk).trans F0.out
                  go_wp2
                  refine ⟨⟨k + 1, by omega, by simp, ?_, hnx.setCell (by dsimp only; omega) _⟩, by simp [intOf]; omega⟩
                  rw [ST.out, E.out, HL.out]
                  exact HST.out _ hown
        · obtain rfl : j = S.length := by omega
          have E := Lib.hid ((ins_split x S.length S hj hless fun h => absurd h (Nat.lt_irrefl _)).trans (if_neg fun h => Nat.lt_irrefl _ h.1))
          clear hless
          have hd : decide ((S.length : Int) < (S.length : Int)) = false := decide_eq_false (Int.lt_irrefl _)
          go_wp2
          go_quiet (fail)
          go_wp2
          go_quiet (fail)
          go_wp2_with (first | (at_builtin; refine wpList_append_own _ rfl _ _ 54 rfl w.heap.size 3 i0 (.int .i64 0) 1 8 Try.underlying54 hi hz0' hz1 hz2 rfl (by decide) _ _ _ rfl ((ownsRow_below hown (Gr.drewN (Gr.refl _) _).1).alloc _) ⟨wr.heap.size, 0, none⟩ 1 1 [.int .i64 0] rfl rfl ?c1 ?c2 ?c3 ?c4 ?c5 ?_))
          case c1 =>
            intro j u hj
            match j, hj with
            | 0, hj => simp at hj; subst hj; exact (World.cell?_alloc_at _ _ _ _ (by show _ = (World.drewN _ _).heap.size; rw [(World.drewN_alike _ _).1])).trans rfl
          case c2 => intro u hu; simp at hu; rcases hu with rfl; rfl
          case c3 => unfold maxLen; omega
          case c4 => omega
          case c5 => have := hnx.size; simp; omega
          intro v' w3 hown' hgrow _
          have hnx3 : Below w.heap.size w w3 := rel_append hnx hown (Gr.drewN (Gr.refl _) _) hnx.size hgrow
          obtain ⟨vo, vc, hv, hvo, hvc, hvc2⟩ := row_form hown'
          obtain ⟨g2, rfl⟩ := hvo (by omega)
          subst hv
          have hown3 : w3.ownsRow w.heap.size 3 1 (.slice (some ⟨g2, 0, none⟩) (S.length + 1) vc) (S.length + 1) (cellsI (S.take S.length ++ (0 : Int) :: S.drop S.length)) := by
            rw [List.take_length, List.drop_length, cellsI_append]
            exact hown'
          have hlj : IntKind.i64.wrap (((S.length + 1 : Nat) : Int) - 1) = (S.length : Int) := (IntWalk.i64_in _ (by omega)).trans (by omega)
          have HNX := Lib.hid hnx
          clear hown' hgrow hown hnx fx hvo
          go_wp2
          go_loopw [6] (fun i wi => ∃ m : Nat, S.length ≤ m ∧ m ≤ S.length ∧ i = .int .i64 (m : Int) ∧ (∃ e, wi.ownsRow w.heap.size 3 1 (.slice (some ⟨g2, 0, none⟩) (S.length + 1) vc) (S.length + 1) (cellsI (S.take m ++ e :: S.drop m))) ∧ Below w.heap.size w wi) (fun i _ => (intOf i).toNat)
          case atStart => exact ⟨S.length, Nat.le_refl _, Nat.le_refl _, by simp, ⟨0, hown3⟩, hnx3⟩
          case round =>
            clear hown3 hnx3
            obtain ⟨m, hm1, hm2, rfl, ⟨e, hown⟩, hnx⟩ := hrel
            have hlen : (S.take m ++ e :: S.drop m).length = S.length + 1 := by rw [List.length_append, List.length_take, List.length_cons, List.length_drop]; omega
            have fe := (hown.cellAt m (by omega)).trans (cellsI_at _ m (by omega))
            have fz := hown.frozenAt m
            by_cases hgt : S.length < m
            · exact absurd hgt (by omega)
            · obtain rfl : m = S.length := by omega
              have hst := fun (W : World) (h : W.ownsRow w.heap.size 3 1 (.slice (some ⟨g2, 0, none⟩) (S.length + 1) vc) (S.length + 1) (cellsI (S.take S.length ++ e :: S.drop S.length))) => (h.stored S.length (.int .i64 x)).1
              rw [cells_set, shift_end S S.length e x (by omega)] at hst
              have HST := Lib.hid hst
              have hge := (hown.lt g2 rfl).1
              generalize (S.take S.length ++ e :: S.drop S.length).getD S.length 0 = e' at *
              have HL := Lib.hid (show (S.take S.length ++ x :: S.drop S.length).length = S.length + 1 by rw [List.length_append, List.length_take, List.length_cons, List.length_drop]; omega)
              clear hst hlen
              have fx := (hnx.cell (p := ⟨g, o + k, none⟩) hblk).trans F0.out
              go_wp2
              refine ⟨⟨k + 1, by omega, by simp, ?_, hnx.setCell (by dsimp only; omega) _⟩, by simp [intOf]; omega⟩
              rw [ST.out, E.out, HL.out]
              exact HST.out _ hown
    · obtain rfl : k = n := by omega
      have HE := Lib.hid (show l.take k = l by rw [← HN.out, List.take_length])
      go_wp2
      go_ret
      exact ⟨_, rfl, hnx, by rw [HE.out] at hown; exact hown⟩
end

section
open Go.RowKit
set_option maxHeartbeats 400000
set_option linter.unusedVariables false
set_option maxHeartbeats 2000000 in
set_option maxRecDepth 100000 in
theorem gInside (u v : Value) (a b : List Rc) (how x y : Int) (B B' : Nat) (w : World) (hx : -4194304 ≤ x ∧ x ≤ 4194304) (hy : -4194304 ≤ y ∧ y ≤ 4194304) (ha : ∀ t ∈ a, t.mod) (hb : ∀ t ∈ b, t.mod) (la : a.length ≤ 1048576) (lb : b.length ≤ 1048576)
    (ga : ∀ q, argR (w.drewN q) B u a) (gb : ∀ q, argR (w.drewN q) B' v b) (hh : how = 0 ∨ how = 1 ∨ how = 2) :
    Calls Try.prog 62 #[u, v, .int .i64 how, .int .i64 x, .int .i64 y] w fun e w' => e = .returned (.bool (insideF how a b x y)) ∧ ∃ q, w' = w.drewN q := by
  have ca := fun q => gHolds u a x y B (w.drewN q) hx hy ha la (ga q)
  have cb := fun q => gHolds v b x y B' (w.drewN q) hx hy hb lb (gb q)
  have c0 := gHolds u a x y B w hx hy ha la (ga 0)
  unfold insideF
  generalize setB a x y = s at *
  generalize setB b x y = t at *
  have CA := Lib.hid ca
  have CB := Lib.hid cb
  have C0 := Lib.hid c0
  clear ca cb c0 ga gb ha hb
  rcases hh with rfl | rfl | rfl <;> cases s <;> cases t
  all_goals
    go_enter Try.func62, Try.ntmps62
    go_wp2_with (first | (go_at_call 51; ((with_reducible refine (C0.out).mono ?_)); rintro e w1 ⟨rfl, q, rfl⟩) | (go_at_call 51; ((with_reducible refine (CB.out _).mono ?_)); rintro e w1 ⟨rfl, q2, rfl⟩))
    go_ret
    exact ⟨by simp, _, by first | rfl | exact World.drewN_drewN _ _ _⟩
end

section
open Go.RowKit
set_option maxHeartbeats 400000
set_option linter.unusedVariables false
theorem joinedF_nil_l (b : List Rc) : joinedF [] b = false := rfl
theorem joinedF_cons (a b : List Rc) (ha : 0 < a.length) (hb : 0 < b.length) : joinedF a b = (decide ((a.getD 0 Rc.zero).y + (a.getD 0 Rc.zero).h = (b.getD 0 Rc.zero).y) && decide (colsF a = colsF b)) := by
  cases a with
  | nil => cases ha
  | cons x a =>
    cases b with
    | nil => cases hb
    | cons y b => rfl
set_option maxHeartbeats 4000000 in
set_option maxRecDepth 100000 in
theorem gJoined (u v : Value) (a b : List Rc) (B B' : Nat) (w : World) (la : a.length ≤ 1048576) (lb : b.length ≤ 1048576) (ma : ∀ t ∈ a, t.mod) (ga : ∀ q, argR (w.drewN q) B u a) (gb : ∀ q, argR (w.drewN q) B' v b) :
    Calls Try.prog 42 #[u, v] w fun e w' => e = .returned (.bool (joinedF a b)) ∧ ∃ q, w' = w.drewN q := by
  have cA := fun q => gAlike u v a b B B' (w.drewN q) la lb (ga q) (gb q)
  obtain ⟨ao, cap, rfl, h⟩ := (show argR w B u a from ga 0)
  obtain ⟨bo, cap2, rfl, h'⟩ := (show argR w B' v b from gb 0)
  by_cases ha : a.length = 0
  · have e : joinedF a b = false := by rw [List.length_eq_zero_iff.1 ha]; rfl
    rw [e, ha]
    clear h h' cA ga gb e ma
    go_enter Try.func42, Try.ntmps42
    go_wp2
    first | go_quiet (fail) | skip
    go_wp2
    go_ret
    exact ⟨rfl, _, rfl⟩
  · by_cases hb : b.length = 0
    · have e : joinedF a b = false := by
        rw [List.length_eq_zero_iff.1 hb]
        cases a <;> rfl
      rw [e, hb]
      obtain ⟨n, hn⟩ : ∃ n, a.length = n := ⟨_, rfl⟩
      rw [hn] at ha la ⊢
      have h1 : 0 < n := by omega
      have hd := decide_eq_true h1
      have hd2 : decide ((0 : Int) < (n : Int)) = true := decide_eq_true (by omega)
      clear h h' cA ga gb e ma
      go_enter Try.func42, Try.ntmps42
      go_wp2
      first | go_quiet (fail) | skip
      go_wp2
      go_ret
      exact ⟨rfl, _, rfl⟩
    · have ha' := Nat.pos_of_ne_zero ha
      have hb' := Nat.pos_of_ne_zero hb
      clear ga gb
      obtain ⟨g, o, rfl, hblk, hc⟩ := h ha'
      obtain ⟨g', o', rfl, hblk', hc'⟩ := h' hb'
      obtain ⟨f0, f1, f2, f3⟩ := hc 0 ha'
      obtain ⟨k0, k1, k2, k3⟩ := hc' 0 hb'
      obtain ⟨⟨b1, b2⟩, ⟨b3, b4⟩, ⟨b5, b6⟩, ⟨b7, b8⟩⟩ := ma _ (getR_mem (L := a) (k := 0) ha')
      rw [joinedF_cons a b ha' hb']
      simp only [Nat.zero_mul, Nat.add_zero] at f0 f1 f2 f3 k0 k1 k2 k3
      generalize a.getD 0 Rc.zero = S at *
      generalize b.getD 0 Rc.zero = T at *
      generalize decide (colsF a = colsF b) = c at *
      have CA := Lib.hid cA
      have kw : IntKind.i64.wrap (S.y + S.h) = S.y + S.h := IntWalk.i64_in _ (by omega)
      obtain ⟨n, hn⟩ : ∃ n, a.length = n := ⟨_, rfl⟩
      obtain ⟨m, hm⟩ : ∃ m, b.length = m := ⟨_, rfl⟩
      rw [hn] at CA ha' la ⊢
      rw [hm] at CA hb' lb ⊢
      have h1 : 0 < n := ha'
      have h2 : 0 < m := hb'
      have hd := decide_eq_true h1
      have hd2 : decide ((0 : Int) < (n : Int)) = true := decide_eq_true (by omega)
      have he := decide_eq_true h2
      have he2 : decide ((0 : Int) < (m : Int)) = true := decide_eq_true (by omega)
      clear h h' hc hc' cA ma ha hb ha' hb' hn hm
      by_cases hy : S.y + S.h = T.y
      · rw [← hy] at k1
        have hh : decide (S.y + S.h = T.y) = true := decide_eq_true hy
        rw [hh]
        clear hy
        go_enter Try.func42, Try.ntmps42
        go_wp2
        go_quiet ((go_at_call 63; exact Calls.quiet_of (CA.out _)))
        go_wp2
        go_ret
        exact ⟨ret_bool (by simp), _, rfl⟩
      · have hh : decide (S.y + S.h = T.y) = false := decide_eq_false hy
        have hk : (S.y + S.h == T.y) = false := by simp [hy]
        rw [hh]
        clear hy
        go_enter Try.func42, Try.ntmps42
        go_wp2
        go_quiet ((go_at_call 63; exact Calls.quiet_of (CA.out _)))
        go_wp2
        go_ret
        exact ⟨ret_bool (by simp), _, rfl⟩
end

section
open Go.RowKit
set_option maxHeartbeats 400000
set_option linter.unusedVariables false
theorem part_ne {L : List Rc} {t : Rc} (h : t ∈ partF L) : t.emp = false := by
  unfold partF kep at h
  have := (List.mem_filter.1 h).2
  simpa using this
theorem part_mod {L : List Rc} : ∀ t ∈ partF L, t.mod := by
  intro t ht
  have := ne_ways t (part_ne ht)
  unfold Rc.mod
  omega
theorem partF_len (L : List Rc) : (partF L).length ≤ 256 := kep_le L 256
theorem argR_own {W : World} {base : Nat} {v : Value} {l : List Rc} (h : W.ownsRow base 33 4 v l.length (cellsR l)) : argR W W.heap.size v l := by
  obtain ⟨ao, cap, rfl, hao, _, _⟩ := row_form h
  refine ⟨ao, cap, rfl, fun hl => ?_⟩
  obtain ⟨g, rfl⟩ := hao hl
  refine ⟨g, 0, rfl, (h.lt g rfl).2, fun k hk => ?_⟩
  simp only [Nat.zero_add]
  obtain ⟨f0, f1, f2, f3⟩ := cellsR_at l k hk
  exact ⟨(h.cellAt (k * 4) (by omega)).trans f0, (h.cellAt (k * 4 + 1) (by omega)).trans f1, (h.cellAt (k * 4 + 2) (by omega)).trans f2, (h.cellAt (k * 4 + 3) (by omega)).trans f3⟩
/-- no pixel outside of the world. -/
theorem part_out (L : List Rc) (x y : Int) (h : x < -1048576 ∨ 1048576 ≤ x ∨ y < -1048576 ∨ 1048576 ≤ y) : setB (partF L) x y = false := by
  cases e : setB (partF L) x y
  · rfl
  · obtain ⟨t, ht, h1, h2, h3, h4⟩ := (setB_iff _ _ _).1 e
    have := ne_ways t (part_ne ht)
    omega
set_option maxHeartbeats 4000000 in
set_option maxRecDepth 100000 in
theorem gHas (v : Value) (L : List Rc) (x y : Int) (w : World) (hL : ∀ t ∈ L, t.big) (h : argR w w.heap.size v L) :
    Calls Try.prog 24 #[v, .agg #[.int .i64 x, .int .i64 y]] w fun e w' => e = .returned (.bool (setB (partF L) x y)) ∧ Below w.heap.size w w' := by
  by_cases ho : x < -1048576 ∨ 1048576 ≤ x ∨ y < -1048576 ∨ 1048576 ≤ y
  · rw [part_out L x y ho]
    clear h
    rcases (show x < -1048576 ∨ (¬ x < -1048576 ∧ 1048576 ≤ x) ∨ (¬ x < -1048576 ∧ ¬ 1048576 ≤ x ∧ y < -1048576) ∨ (¬ x < -1048576 ∧ ¬ 1048576 ≤ x ∧ ¬ y < -1048576 ∧ 1048576 ≤ y) by omega) with h1 | ⟨h1, h2⟩ | ⟨h1, h2, h3⟩ | ⟨h1, h2, h3, h4⟩
    all_goals
      clear ho
      go_enter Try.func24, Try.ntmps24
      go_wp2
      go_ret
      exact ⟨rfl, by go_grown⟩
  · have h1 : ¬ x < -1048576 := by omega
    have h2 : ¬ 1048576 ≤ x := by omega
    have h3 : ¬ y < -1048576 := by omega
    have h4 : ¬ 1048576 ≤ y := by omega
    clear ho
    go_enter Try.func24, Try.ntmps24
    go_wp2_with fail
    have kp : ∀ W w1 : World, (fun W => Below w.heap.size w W ∧ w.heap.size < W.heap.size ∧ W.cell? ⟨w.heap.size, 0, none⟩ = some (.int .i64 x) ∧ W.cell? ⟨w.heap.size, 1, none⟩ = some (.int .i64 y)) W → Below W.heap.size W w1 → (fun W => Below w.heap.size w W ∧ w.heap.size < W.heap.size ∧ W.cell? ⟨w.heap.size, 0, none⟩ = some (.int .i64 x) ∧ W.cell? ⟨w.heap.size, 1, none⟩ = some (.int .i64 y)) w1 := by
      intro W w1 hS hg
      have hs := hg.size
      obtain ⟨s0, s1, s2, s3⟩ := hS
      exact ⟨s0.trans (hg.mono s0.size), by omega, (hg.cell (by (try dsimp only); omega)).trans s2, (hg.cell (by (try dsimp only); omega)).trans s3⟩
    have KP := Lib.hid kp
    clear kp
    have hB0 : Below w.heap.size w (w.alloc (.cells #[.int .i64 x, .int .i64 y] 29)).drew := by go_grown
    have hz0 : w.heap.size < (w.alloc (.cells #[.int .i64 x, .int .i64 y] 29)).drew.heap.size := by simp
    have z0 : (w.alloc (.cells #[.int .i64 x, .int .i64 y] 29)).drew.cell? ⟨w.heap.size, 0, none⟩ = some (.int .i64 x) := (World.cell?_alloc_at _ _ _ _ rfl).trans rfl
    have z1 : (w.alloc (.cells #[.int .i64 x, .int .i64 y] 29)).drew.cell? ⟨w.heap.size, 1, none⟩ = some (.int .i64 y) := (World.cell?_alloc_at _ _ _ _ rfl).trans rfl
    go_region_held3 (fun W => Below w.heap.size w W ∧ w.heap.size < W.heap.size ∧ W.cell? ⟨w.heap.size, 0, none⟩ = some (.int .i64 x) ∧ W.cell? ⟨w.heap.size, 1, none⟩ = some (.int .i64 y))
      (first | exact ⟨hB0, hz0, z0, z1⟩ | assumption | exact KP.out _ _ (by assumption) hg | exact KP.out _ _ (by assumption) (Gr.drewN (Gr.refl _) _).1)
      (first | (go_at_call 36; (with_reducible refine (gPart v L _ hL ((h.below (And.left (by assumption))).mono (And.left (by assumption) : Below w.heap.size w _).size)).mono ?_); rintro e w1 ⟨u, rfl, hg, hown⟩) | (go_at_call 51; (with_reducible refine (gHolds _ (partF L) x y _ _ ⟨by omega, by omega⟩ ⟨by omega, by omega⟩ part_mod (by have := partF_len L; omega) (argR_own hown)).mono ?_); rintro e w2 ⟨rfl, q, rfl⟩))
    go_wp2
    go_ret
    exact ⟨rfl, by first | assumption | exact And.left (by assumption)⟩
end

end Go.Proofs.Ythknkgblddoapaa
