import Derived.Test.YthknkgblddoapaaProg
import Derived.WalkKit
import Derived.WalkLawsBesides
import Derived.Outline
import Derived.Lib.Walk
import Derived.Deep.QuietTactic
import Derived.BigQuiet
import Derived.RowKit3
import Derived.Deep.LoopGhost
import Derived.Great.Walk
import Derived.Great.BuildSlice
import Derived.Laws.Rows
import Derived.Laws.Tables
import Derived.Laws.CopyOwn
import Derived.Lib.Hide
import Derived.Handy
import Derived.Deep.Onto
import Derived.Test.YthknkgblddoapaaMG
import Derived.Test.YthknkgblddoapaaMH
import Derived.Test.YthknkgblddoapaaMC
import Derived.Test.YthknkgblddoapaaMD
import Derived.Test.YthknkgblddoapaaMB
namespace Go.Proofs.Ythknkgblddoapaa

section
open Go.RowKit
set_option maxHeartbeats 400000
set_option linter.unusedVariables false
theorem ret_int {k : IntKind} {a b : Int} (h : a = b) : Ending.returned (.int k a) = .returned (.int k b) := by rw [h]

theorem c56 (a : Int) (w : World) : Calls Try.prog 56 #[.int .i64 a, .int .i64 0, .int .i64 1048576] w fun e w' => e = .returned (.int .i64 (min 1048576 (max a 0))) ∧ w = w' := by
  go_enter Try.func56, Try.ntmps56
  go_wp2
  go_ret
  exact ⟨rfl, rfl⟩

theorem c58 (a : Int) (w : World) : Calls Try.prog 58 #[.int .i64 a, .int .i64 0, .int .i64 1048576] w fun e w' => e = .returned (.int .i64 (min 1048576 (max a 0))) ∧ w = w' := by
  go_enter Try.func58, Try.ntmps58
  go_wp2
  go_ret
  exact ⟨rfl, rfl⟩

theorem c76 (a : Int) (W : World) (h0 : -1099511627776 ≤ a) (h1 : a ≤ 1099511627776) : Calls Try.prog 76 #[.int .i64 a, .int .i64 16] W fun e w' => e = .returned (.int .i64 (a / 16)) ∧ W = w' := by
  by_cases hs : 0 ≤ a
  · have hd : decide (a < 0) = false := decide_eq_false (by omega)
    by_cases hr : a % 16 = 0
    · have hz : (a % 16 == 0) = true := by simpa using hr
      have hz2 : (a % 16 != 0) = false := by simpa using hr
      go_enter Try.func76, Try.ntmps76
      go_wp2
      go_ret
      exact ⟨rfl, by first | rfl | exact ⟨_, rfl⟩⟩
    · have hz : (a % 16 == 0) = false := by simpa using hr
      have hz2 : (a % 16 != 0) = true := by simpa using hr
      have hd2 : decide (a % 16 < 0) = false := decide_eq_false (by omega)
      go_enter Try.func76, Try.ntmps76
      go_wp2
      go_ret
      exact ⟨rfl, by first | rfl | exact ⟨_, rfl⟩⟩
  · have ht : a.tdiv 16 = -((-a) / 16) := by
      have := Int.neg_tdiv (a := -a) (b := 16)
      rw [Int.neg_neg] at this
      rw [this, Int.tdiv_eq_ediv_of_nonneg (by omega)]
    have hm : a.tmod 16 = -((-a) % 16) := by
      have := Int.neg_tmod (a := -a) (b := 16)
      rw [Int.neg_neg] at this
      rw [this, Int.tmod_eq_emod_of_nonneg (by omega)]
    have hd : decide (a < 0) = true := decide_eq_true (by omega)
    by_cases hr : (-a) % 16 = 0
    · have E : Hid (a / 16 = a.tdiv 16) := Lib.hid (by rw [ht]; omega)
      have hz : (a.tmod 16 == 0) = true := by rw [hm, hr]; rfl
      have hz2 : (a.tmod 16 != 0) = false := by rw [hm, hr]; rfl
      clear ht hm hs hr
      go_enter Try.func76, Try.ntmps76
      go_wp2
      go_ret
      first | exact ⟨ret_int E.out.symm, rfl⟩ | exact ⟨ret_int E.out.symm, _, rfl⟩
    · have E : Hid (a / 16 = a.tdiv 16 - 1) := Lib.hid (by rw [ht]; omega)
      have hz : (a.tmod 16 == 0) = false := by rw [hm]; simp; omega
      have hz2 : (a.tmod 16 != 0) = true := by rw [hm]; simp; omega
      have hd2 : decide (a.tmod 16 < 0) = true := decide_eq_true (by rw [hm]; omega)
      have kw : IntKind.i64.wrap (a.tdiv 16 - 1) = a.tdiv 16 - 1 := IntWalk.i64_in _ (by rw [ht]; omega)
      clear ht hm hs hr
      go_enter Try.func76, Try.ntmps76
      go_wp2
      go_ret
      first | exact ⟨ret_int E.out.symm, rfl⟩ | exact ⟨ret_int E.out.symm, _, rfl⟩

theorem c55 (a : Int) (W : World) (h0 : -1099511627776 ≤ a) (h1 : a ≤ 1099511627776) : Calls Try.prog 55 #[.int .i64 a, .int .i64 16] W fun e w' => e = .returned (.int .i64 (a / 16)) ∧ ∃ q, w' = W.drewN q := by
  by_cases hs : 0 ≤ a
  · have hd : decide (a < 0) = false := decide_eq_false (by omega)
    by_cases hr : a % 16 = 0
    · have hz : (a % 16 == 0) = true := by simpa using hr
      have hz2 : (a % 16 != 0) = false := by simpa using hr
      go_enter Try.func55, Try.ntmps55
      go_wp2
      first | go_quiet (fail) | skip
      go_wp2
      go_ret
      exact ⟨rfl, by first | rfl | exact ⟨_, rfl⟩⟩
    · have hz : (a % 16 == 0) = false := by simpa using hr
      have hz2 : (a % 16 != 0) = true := by simpa using hr
      have hd2 : decide (a % 16 < 0) = false := decide_eq_false (by omega)
      go_enter Try.func55, Try.ntmps55
      go_wp2
      first | go_quiet (fail) | skip
      go_wp2
      go_ret
      exact ⟨rfl, by first | rfl | exact ⟨_, rfl⟩⟩
  · have ht : a.tdiv 16 = -((-a) / 16) := by
      have := Int.neg_tdiv (a := -a) (b := 16)
      rw [Int.neg_neg] at this
      rw [this, Int.tdiv_eq_ediv_of_nonneg (by omega)]
    have hm : a.tmod 16 = -((-a) % 16) := by
      have := Int.neg_tmod (a := -a) (b := 16)
      rw [Int.neg_neg] at this
      rw [this, Int.tmod_eq_emod_of_nonneg (by omega)]
    have hd : decide (a < 0) = true := decide_eq_true (by omega)
    by_cases hr : (-a) % 16 = 0
    · have E : Hid (a / 16 = a.tdiv 16) := Lib.hid (by rw [ht]; omega)
      have hz : (a.tmod 16 == 0) = true := by rw [hm, hr]; rfl
      have hz2 : (a.tmod 16 != 0) = false := by rw [hm, hr]; rfl
      clear ht hm hs hr
      go_enter Try.func55, Try.ntmps55
      go_wp2
      first | go_quiet (fail) | skip
      go_wp2
      go_ret
      first | exact ⟨ret_int E.out.symm, rfl⟩ | exact ⟨ret_int E.out.symm, _, rfl⟩
    · have E : Hid (a / 16 = a.tdiv 16 - 1) := Lib.hid (by rw [ht]; omega)
      have hz : (a.tmod 16 == 0) = false := by rw [hm]; simp; omega
      have hz2 : (a.tmod 16 != 0) = true := by rw [hm]; simp; omega
      have hd2 : decide (a.tmod 16 < 0) = true := decide_eq_true (by rw [hm]; omega)
      have kw : IntKind.i64.wrap (a.tdiv 16 - 1) = a.tdiv 16 - 1 := IntWalk.i64_in _ (by rw [ht]; omega)
      clear ht hm hs hr
      go_enter Try.func55, Try.ntmps55
      go_wp2
      first | go_quiet (fail) | skip
      go_wp2
      go_ret
      first | exact ⟨ret_int E.out.symm, rfl⟩ | exact ⟨ret_int E.out.symm, _, rfl⟩

set_option maxHeartbeats 2000000 in
set_option maxRecDepth 100000 in
theorem c52 (v : Value) (L : List Rc) (B : Nat) (w : World) (h : argR w B v L) (hB : B ≤ w.heap.size) (hl : L.length ≤ 4194304) (hne : ∀ t ∈ L, t.emp = false) (hap : Apart L) :
    Calls Try.prog 52 #[v] w fun e w' => e = .returned (.int .i64 (wsum L)) ∧ Below w.heap.size w w' := by
  obtain ⟨ao, cap, rfl, h⟩ := h
  obtain ⟨n, hn⟩ : ∃ n, L.length = n := ⟨_, rfl⟩
  rw [hn] at h hl
  have HN := Lib.hid hn
  rw [hn]
  clear hn
  have H := Lib.hid h
  have HE := Lib.hid hne
  have HW := Lib.hid (wsum_take_bd (fun t ht => ne_inW (hne t ht)) hap)
  clear h hne hap
  go_enter Try.func52, Try.ntmps52
  go_wp2
  go_loopw [3, 8] (fun s i wr => ∃ k : Nat, k ≤ n ∧ i = .int .i64 (k : Int) ∧ s = .int .i64 (wsum (L.take k)) ∧ Below w.heap.size w wr) (fun _ i _ => (n - (intOf i).toNat))
  case atStart => exact ⟨0, by omega, rfl, rfl, Below.refl _ _⟩
  case round =>
    obtain ⟨k, hk, rfl, rfl, hnx⟩ := hrel
    by_cases hlt : k < n
    · obtain ⟨g, o, rfl, hblk', hc⟩ := H.out (by omega)
      obtain ⟨f0, f1, f2, f3⟩ := hc k (by omega)
      have hblk : g < w.heap.size := Nat.lt_of_lt_of_le hblk' hB
      replace f0 := (hnx.cell (p := ⟨g, o + k * 4, none⟩) hblk).trans f0
      replace f1 := (hnx.cell (p := ⟨g, o + k * 4 + 1, none⟩) hblk).trans f1
      replace f2 := (hnx.cell (p := ⟨g, o + k * 4 + 2, none⟩) hblk).trans f2
      replace f3 := (hnx.cell (p := ⟨g, o + k * 4 + 3, none⟩) hblk).trans f3

      have hh := wsum_succ L k (by rw [HN.out]; omega)
      have ha := area_wh (HE.out _ (getR_mem (L := L) (k := k) (by rw [HN.out]; exact hlt)))
      have b1 := HW.out k
      have b2 := HW.out (k + 1)
      clear hc
      generalize L.getD k Rc.zero = S at *
      rw [← ha] at hh
      have HH := Lib.hid hh
      have ce := fun w => p19 S.x S.y S.w S.h w
      have hS : (⟨S.x, S.y, S.w, S.h⟩ : Rc) = S := rfl
      rw [hS] at ce
      have CE := Lib.hid ce
      rw [hh] at b2
      generalize wsum (L.take k) = m at *
      generalize S.area = q at *
      have kk : IntKind.i64.wrap ((k : Int) + 1) = (k : Int) + 1 := IntWalk.i64_in _ (by omega)
      have km : IntKind.i64.wrap (m + q) = m + q := IntWalk.i64_in _ (by omega)
      clear hS hh ha ce
      go_wp2_with (go_at_call 74; ((with_reducible refine (CE.out _).mono ?_)); rintro e w1 ⟨rfl, hg⟩)
      go_roundw
      case rel => exact ⟨k + 1, by omega, by simp, by rw [HH.out], (hnx.alloc hnx.size _).trans (hg.1.mono (by have := hnx.size; simp; omega))⟩
      case measure => simp [intOf]; omega
    · obtain rfl : k = n := by omega
      have hend : L.take k = L := by rw [← HN.out]; exact List.take_length
      have HA := Lib.hid hend
      clear hend
      go_wp2
      go_ret
      exact ⟨ret_int (by rw [HA.out]), hnx⟩
theorem build_apart (a b : List Rc) (how : Int) : Apart (buildF a b how) := canon_apart (buildF_ok a b how).1
set_option maxHeartbeats 1000000 in
theorem c25 (u : Value) (A : List Rc) (w : World) (ga : argR w w.heap.size u A) (cu : capOk u) :
    Calls Try.prog 25 #[u] w fun e w' => e = .returned (.int .i64 (wsum (buildF (partF A) [] 0))) ∧ Below w.heap.size w w' := by
  have C := Lib.hid (c11 u A w ga cu)
  have hne := build_ne (a := partF A) (b := []) 0 (fun t ht => part_ne ht) (fun t ht => by cases ht)
  have hap := build_apart (partF A) [] 0
  have hlen : (buildF (partF A) [] 0).length ≤ 4194304 := by have := build_len (partF A) [] 0 (partF_len A) (by simp); omega
  generalize buildF (partF A) [] 0 = L at *
  clear ga cu
  go_enter Try.func25, Try.ntmps25
  go_wp2_with (go_at_call 11; fail)
  refine C.out.mono ?_
  rintro e w1 ⟨x, rfl, hg, hown⟩
  go_wp2_with (go_at_call 52; fail)
  refine (c52 x L w1.heap.size w1 (argR_own hown) (Nat.le_refl _) hlen hne hap).mono ?_
  rintro e w2 ⟨rfl, hg2⟩
  go_wp2
  go_ret
  exact ⟨rfl, hg.trans (hg2.mono hg.size)⟩
end

section
open Go.RowKit
set_option maxHeartbeats 400000
set_option linter.unusedVariables false

theorem growF_take (d : Int) (L : List Rc) (k : Nat) (hk : k < L.length) : (growF L d).take (k + 1) = (growF L d).take k ++ [(L.getD k Rc.zero).grow d] := by
  unfold growF
  rw [List.take_succ_eq_append_getElem (by simpa using hk), List.getD_eq_getElem?_getD, List.getElem?_eq_getElem hk]
  simp
theorem tilF_take (L : List Rc) (k : Nat) (hk : k < L.length) : (tilF L).take (k + 1) = (tilF L).take k ++ [(L.getD k Rc.zero).til] := by
  unfold tilF
  rw [List.take_succ_eq_append_getElem (by simpa using hk), List.getD_eq_getElem?_getD, List.getElem?_eq_getElem hk]
  simp
set_option maxHeartbeats 2000000 in
set_option maxRecDepth 100000 in
theorem c31 (v : Value) (A : List Rc) (m : Int) (w : World) (h : argR w w.heap.size v A) (cu : capOk v) :
    Calls Try.prog 31 #[v, .int .i64 m] w fun e w' => ∃ u, e = .returned u ∧ Below w.heap.size w w' ∧ w'.ownsRow w.heap.size 33 4 u (buildF (growF (partF A) (min 1048576 (max m 0))) [] 0).length (cellsR (buildF (growF (partF A) (min 1048576 (max m 0))) [] 0)) := by
  have C1 := Lib.hid (p49 v A w h cu)
  have hl := partF_len A
  have hne := Lib.hid (fun t (ht : t ∈ partF A) => part_ne ht)
  have CM := Lib.hid (c56 m w)
  obtain ⟨d, hd⟩ : ∃ d, min 1048576 (max m 0) = d := ⟨_, rfl⟩
  have hd0 : 0 ≤ d ∧ d ≤ 1048576 := by omega
  rw [hd] at CM ⊢
  clear hd h cu
  generalize partF A = L at *
  have PS := Lib.hid (part_self (growF_ne (l := L) (n := d) hne.out hd0.1 hd0.2) (by unfold growF; rw [List.length_map]; exact hl))
  obtain ⟨i0, hi, hz0', hzs, hzb⟩ := info_parts info23
  go_enter Try.func31, Try.ntmps31
  go_wp2_with (first | (go_at_call 56; ((with_reducible refine CM.out.mono ?_)); rintro e w0 ⟨rfl, rfl⟩) | (go_at_call 49; fail))
  refine C1.out.mono ?_
  rintro e w1 ⟨x1, rfl, hn1, own1⟩
  obtain ⟨ao, cap, rfl, h⟩ := argR_own own1
  obtain ⟨n, hn⟩ : ∃ n, L.length = n := ⟨_, rfl⟩
  rw [hn] at h hl
  have HN := Lib.hid hn
  rw [hn]
  clear hn own1
  have H := Lib.hid h
  clear h
  have hw1 := hn1.size
  go_wp2
  go_loopw [5, 13] (fun s i wr => ∃ k : Nat, k ≤ n ∧ i = .int .i64 (k : Int) ∧ wr.ownsRow w1.heap.size 33 4 s k (cellsR ((growF L d).take k)) ∧ Below w1.heap.size w1 wr) (fun _ i _ => (n - (intOf i).toNat))
  case atStart => exact ⟨0, by omega, rfl, World.ownsRow_nil _ _ _ _, Below.refl _ _⟩
  case round =>
    obtain ⟨k, hk, rfl, hown, hnx⟩ := hrel
    by_cases hlt : k < n
    · obtain ⟨g, o, rfl, hblk, hc⟩ := H.out (by omega)
      obtain ⟨f0, f1, f2, f3⟩ := hc k (by omega)
      replace f0 := (hnx.cell (p := ⟨g, o + k * 4, none⟩) hblk).trans f0
      replace f1 := (hnx.cell (p := ⟨g, o + k * 4 + 1, none⟩) hblk).trans f1
      replace f2 := (hnx.cell (p := ⟨g, o + k * 4 + 2, none⟩) hblk).trans f2
      replace f3 := (hnx.cell (p := ⟨g, o + k * 4 + 3, none⟩) hblk).trans f3
      have hh := growF_take d L k (by rw [HN.out]; omega)
      clear hc
      generalize L.getD k Rc.zero = S at *
      have ce := fun W => p29 S.x S.y S.w S.h d W
      have hS : (⟨S.x, S.y, S.w, S.h⟩ : Rc) = S := rfl
      rw [hS] at ce
      have e3 : cellsR ((growF L d).take (k + 1)) = cellsR ((growF L d).take k) ++ [.int .i64 (S.grow d).x, .int .i64 (S.grow d).y, .int .i64 (S.grow d).w, .int .i64 (S.grow d).h] := by rw [hh, cellsR_append]; rfl
      unfold Rc.val at ce
      have E3 := Lib.hid e3
      generalize S.grow d = G at *
      have CE := Lib.hid ce
      have kk : IntKind.i64.wrap ((k : Int) + 1) = (k : Int) + 1 := IntWalk.i64_in _ (by omega)
      clear hS hh ce e3
      go_wp2_with (first | (go_at_call 57; ((with_reducible refine (CE.out _).mono ?_)); rintro e w2 ⟨rfl, hg⟩) | (at_builtin; refine wpList_append_own _ rfl _ _ 22 rfl w1.heap.size 33 i0 (.agg #[.int .i64 0, .int .i64 0, .int .i64 0, .int .i64 0]) 4 32 Try.underlying22 hi hz0' hzs hzb rfl (by decide) _ _ _ rfl (ownsRow_below (hown.alloc _) hg.1 |>.alloc _) ⟨w2.heap.size, 0, none⟩ 1 1 [.int .i64 G.x, .int .i64 G.y, .int .i64 G.w, .int .i64 G.h] rfl rfl ?c1 ?c2 ?c3 ?c4 ?c5 ?_))
      case c1 =>
        intro j u hj
        match j, hj with
        | 0, hj => simp at hj; subst hj; first | (simp [Addr.add]; done) | exact (World.cell?_alloc_at _ _ _ _ (by simp)).trans rfl
        | 1, hj => simp at hj; subst hj; first | (simp [Addr.add]; done) | exact (World.cell?_alloc_at _ _ _ _ (by simp)).trans rfl
        | 2, hj => simp at hj; subst hj; first | (simp [Addr.add]; done) | exact (World.cell?_alloc_at _ _ _ _ (by simp)).trans rfl
        | 3, hj => simp at hj; subst hj; first | (simp [Addr.add]; done) | exact (World.cell?_alloc_at _ _ _ _ (by simp)).trans rfl
      case c2 => intro u hu; simp at hu; rcases hu with rfl | rfl | rfl | rfl <;> rfl
      case c3 => unfold maxLen; omega
      case c4 => omega
      case c5 => have := hnx.size; have := hg.1.size; simp at this ⊢; omega
      intro v' w3 hown' hgrow _
      have hnx2 : Below w1.heap.size w1 w2 := (hnx.alloc hnx.size _).trans (hg.1.mono (by have := hnx.size; simp; omega))
      have hnx3 : Below w1.heap.size w1 w3 := rel_append (w2 := w2) hnx2 (ownsRow_below (hown.alloc _) hg.1) (Gr.refl _) hnx2.size hgrow
      rw [← E3.out] at hown'
      clear hgrow hown hnx f0 f1 f2 f3 hg hnx2
      go_wp2
      go_roundw
      case rel => exact ⟨k + 1, by omega, by simp, hown', hnx3⟩
      case measure => simp [intOf]; omega
    · obtain rfl : k = n := by omega
      have hlg : (growF L d).length = k := by unfold growF; rw [List.length_map, HN.out]
      have hend : (growF L d).take k = growF L d := by rw [← hlg, List.take_length]
      rw [hend] at hown
      rw [← hlg] at hown
      have co := c11 _ (growF L d) wr (argR_own hown) (capOk_own hown)
      rw [PS.out] at co
      have CO := Lib.hid co
      clear hend co hlg hown
      go_wp2_with (go_at_call 11; ((with_reducible refine CO.out.mono ?_)); rintro e w2 ⟨x, rfl, hg, hown⟩)
      go_ret
      have := hnx.size
      exact ⟨_, rfl, (hn1.trans (hnx.mono hw1)).trans (hg.mono (by omega)), hown.mono (by omega)⟩
end

section
open Go.RowKit
set_option maxHeartbeats 400000
set_option linter.unusedVariables false

theorem below_app {B : Nat} {w1 wr X w3 : World} {v : Value} {t : TypeId} {size n : Nat} {xs : List Value} (hnx : Below B w1 wr) (hB : B ≤ wr.heap.size) (hown : wr.ownsRow B t size v n xs) (hg : X.grownBy w3 v.ownBlock) (hX : Below wr.heap.size wr X) : Below B w1 w3 :=
  (hnx.trans (hX.mono hB)).grown hg (Nat.le_trans hB hX.size) (fun g e => (hown.lt g e).1)
theorem q76 (a : Int) (W : World) (h0 : -1099511627776 ≤ a) (h1 : a ≤ 1099511627776) : Calls Try.prog 76 #[.int .i64 a, .int .i64 16] W fun e w' => e = .returned (.int .i64 (a / 16)) ∧ ∃ q, w' = W.drewN q :=
  (c76 a W h0 h1).mono fun _ _ ⟨he, hw⟩ => ⟨he, 0, hw.symm⟩
theorem q76b (a : Int) (W : World) (p n : Nat) (h0 : -1099511627776 ≤ a) (h1 : a ≤ 1099511627776) : Calls Try.prog 76 #[.int .i64 a, .int .i64 16] (W.drewN (p + n)) fun e w' => e = .returned (.int .i64 (a / 16)) ∧ ∃ m, w' = W.drewN (p + m) :=
  (c76 a _ h0 h1).mono fun _ _ ⟨he, hw⟩ => ⟨he, n, hw.symm⟩
set_option maxHeartbeats 4000000 in
set_option maxRecDepth 100000 in
theorem c54 (v : Value) (A : List Rc) (w : World) (h : argR w w.heap.size v A) (cu : capOk v) :
    Calls Try.prog 54 #[v] w fun e w' => ∃ u, e = .returned u ∧ Below w.heap.size w w' ∧ w'.ownsRow w.heap.size 33 4 u (buildF (tilF (partF A)) [] 0).length (cellsR (buildF (tilF (partF A)) [] 0)) := by
  have C1 := Lib.hid (p49 v A w h cu)
  have hl := partF_len A
  have hne := Lib.hid (fun t (ht : t ∈ partF A) => part_ne ht)
  clear h cu
  generalize partF A = L at *
  have PS := Lib.hid (part_self (tilF_ne (l := L) hne.out) (by unfold tilF; rw [List.length_map]; exact hl))
  obtain ⟨i0, hi, hz0', hzs, hzb⟩ := info_parts info23
  go_enter Try.func54, Try.ntmps54
  go_wp2_with (go_at_call 49; fail)
  refine C1.out.mono ?_
  rintro e w1 ⟨x1, rfl, hn1, own1⟩
  obtain ⟨ao, cap, rfl, h⟩ := argR_own own1
  obtain ⟨n, hn⟩ : ∃ n, L.length = n := ⟨_, rfl⟩
  rw [hn] at h hl
  have HN := Lib.hid hn
  rw [hn]
  clear hn own1
  have H := Lib.hid h
  clear h
  have hw1 := hn1.size
  go_wp2
  go_loopw [3, 13] (fun s i wr => ∃ k : Nat, k ≤ n ∧ i = .int .i64 (k : Int) ∧ wr.ownsRow w1.heap.size 33 4 s k (cellsR ((tilF L).take k)) ∧ Below w1.heap.size w1 wr) (fun _ i _ => (n - (intOf i).toNat))
  case atStart => exact ⟨0, by omega, rfl, World.ownsRow_nil _ _ _ _, Below.refl _ _⟩
  case round =>
    obtain ⟨k, hk, rfl, hown, hnx⟩ := hrel
    by_cases hlt : k < n
    · obtain ⟨g, o, rfl, hblk, hc⟩ := H.out (by omega)
      obtain ⟨f0, f1, f2, f3⟩ := hc k (by omega)
      replace f0 := (hnx.cell (p := ⟨g, o + k * 4, none⟩) hblk).trans f0
      replace f1 := (hnx.cell (p := ⟨g, o + k * 4 + 1, none⟩) hblk).trans f1
      replace f2 := (hnx.cell (p := ⟨g, o + k * 4 + 2, none⟩) hblk).trans f2
      replace f3 := (hnx.cell (p := ⟨g, o + k * 4 + 3, none⟩) hblk).trans f3

      have hh := tilF_take L k (by rw [HN.out]; omega)
      have hb := ne_ways _ (hne.out _ (getR_mem (L := L) (k := k) (by rw [HN.out]; exact hlt)))
      clear hc
      generalize L.getD k Rc.zero = S at *
      obtain ⟨sx, sy, sw, sh⟩ := S
      simp only at f0 f1 f2 f3 hb
      obtain ⟨_, _, _, _, b1, b2, b3, b4, b5, b6⟩ := hb
      have e3 : cellsR ((tilF L).take (k + 1)) = cellsR ((tilF L).take k) ++ [.int .i64 (sx / 16), .int .i64 (sy / 16), .int .i64 ((sx + sw - 1) / 16 - sx / 16 + 1), .int .i64 ((sy + sh - 1) / 16 - sy / 16 + 1)] := by
        rw [hh, cellsR_append]
        have e1 : (sx + sw - 1) / 16 - sx / 16 + 1 = (sx + sw - 1) / 16 + 1 - sx / 16 := by omega
        have e2 : (sy + sh - 1) / 16 - sy / 16 + 1 = (sy + sh - 1) / 16 + 1 - sy / 16 := by omega
        rw [e1, e2]
        rfl
      have a1 : -65536 ≤ sx / 16 ∧ sx / 16 ≤ 65536 := by omega
      have a2 : -65536 ≤ sy / 16 ∧ sy / 16 ≤ 65536 := by omega
      have a3 : -65536 ≤ (sx + sw - 1) / 16 ∧ (sx + sw - 1) / 16 ≤ 65536 := by omega
      have a4 : -65536 ≤ (sy + sh - 1) / 16 ∧ (sy + sh - 1) / 16 ≤ 65536 := by omega
      have E3 := Lib.hid e3
      have kk : IntKind.i64.wrap ((k : Int) + 1) = (k : Int) + 1 := IntWalk.i64_in _ (by omega)
      have k1 : IntKind.i64.wrap (sx + sw) = sx + sw := IntWalk.i64_in _ (by omega)
      have k2 : IntKind.i64.wrap (sy + sh) = sy + sh := IntWalk.i64_in _ (by omega)
      have k3 : IntKind.i64.wrap (sx + sw - 1) = sx + sw - 1 := IntWalk.i64_in _ (by omega)
      have k4 : IntKind.i64.wrap (sy + sh - 1) = sy + sh - 1 := IntWalk.i64_in _ (by omega)
      have k5 : IntKind.i64.wrap ((sx + sw - 1) / 16 - sx / 16) = (sx + sw - 1) / 16 - sx / 16 := IntWalk.i64_in _ (by omega)
      have k6 : IntKind.i64.wrap ((sy + sh - 1) / 16 - sy / 16) = (sy + sh - 1) / 16 - sy / 16 := IntWalk.i64_in _ (by omega)
      have k7 : IntKind.i64.wrap ((sx + sw - 1) / 16 - sx / 16 + 1) = (sx + sw - 1) / 16 - sx / 16 + 1 := IntWalk.i64_in _ (by omega)
      have k8 : IntKind.i64.wrap ((sy + sh - 1) / 16 - sy / 16 + 1) = (sy + sh - 1) / 16 - sy / 16 + 1 := IntWalk.i64_in _ (by omega)
      clear hh e3
      go_wp2
      go_quiet ((go_at_call 76; exact Calls.quiet_of (q76 _ _ (by omega) (by omega))))
      go_wp2
      go_quiet ((go_at_call 76; exact q76b _ _ _ _ (by omega) (by omega)))
      go_wp2_with (at_builtin; refine wpList_append_own _ rfl _ _ 22 rfl w1.heap.size 33 i0 (.agg #[.int .i64 0, .int .i64 0, .int .i64 0, .int .i64 0]) 4 32 Try.underlying22 hi hz0' hzs hzb rfl (by decide) _ _ _ rfl (hown.alloc _ |>.alloc _) ⟨wr.heap.size + 1, 0, none⟩ 1 1 [.int .i64 (sx / 16), .int .i64 (sy / 16), .int .i64 ((sx + sw - 1) / 16 - sx / 16 + 1), .int .i64 ((sy + sh - 1) / 16 - sy / 16 + 1)] rfl rfl ?c1 ?c2 ?c3 ?c4 ?c5 ?_)
      case c1 =>
        intro j u hj
        match j, hj with
        | 0, hj => simp at hj; subst hj; first | (simp [Addr.add]; done) | exact (World.cell?_alloc_at _ _ _ _ (by simp)).trans rfl
        | 1, hj => simp at hj; subst hj; first | (simp [Addr.add]; done) | exact (World.cell?_alloc_at _ _ _ _ (by simp)).trans rfl
        | 2, hj => simp at hj; subst hj; first | (simp [Addr.add]; done) | exact (World.cell?_alloc_at _ _ _ _ (by simp)).trans rfl
        | 3, hj => simp at hj; subst hj; first | (simp [Addr.add]; done) | exact (World.cell?_alloc_at _ _ _ _ (by simp)).trans rfl
      case c2 => intro u hu; simp at hu; rcases hu with rfl | rfl | rfl | rfl <;> rfl
      case c3 => unfold maxLen; omega
      case c4 => omega
      case c5 => have := hnx.size; simp; omega
      intro v' w3 hown' hgrow _
      have hnx3 : Below w1.heap.size w1 w3 := below_app hnx hnx.size hown hgrow (by first | exact below_drewN (Below.alloc (Below.alloc (Below.refl _ _) (Nat.le_refl _) _) (by simp) _) _ | exact Below.alloc (below_drewN (Below.alloc (Below.refl _ _) (Nat.le_refl _) _) _) (by simp) _)
      rw [← E3.out] at hown'
      clear hgrow hown hnx f0 f1 f2 f3
      go_wp2
      go_roundw
      case rel => exact ⟨k + 1, by omega, by simp, hown', hnx3⟩
      case measure => simp [intOf]; omega
    · obtain rfl : k = n := by omega
      have hlg : (tilF L).length = k := by unfold tilF; rw [List.length_map, HN.out]
      have hend : (tilF L).take k = tilF L := by rw [← hlg, List.take_length]
      rw [hend] at hown
      rw [← hlg] at hown
      have co := c11 _ (tilF L) wr (argR_own hown) (capOk_own hown)
      rw [PS.out] at co
      have CO := Lib.hid co
      clear hend co hlg hown
      go_wp2_with (go_at_call 11; ((with_reducible refine CO.out.mono ?_)); rintro e w2 ⟨x, rfl, hg, hown⟩)
      go_ret
      have := hnx.size
      exact ⟨_, rfl, (hn1.trans (hnx.mono hw1)).trans (hg.mono (by omega)), hown.mono (by omega)⟩
end

section
open Go.RowKit
set_option maxHeartbeats 400000
set_option linter.unusedVariables false

theorem has_in (t : Rc) (h : t.emp = false) (p q : Int) : t.has p q = inB t p q := by
  have hw := ne_ways t h
  have h1 := has_iff t p q
  obtain ⟨e1, e2, e3, e4, _⟩ := hw
  rw [e1, e2, e3, e4] at h1
  cases e : inB t p q
  · cases e2 : t.has p q
    · rfl
    · have := h1.1 e2
      unfold inB at e
      simp at e
      omega
  · apply h1.2
    unfold inB at e
    simp at e
    omega
theorem any_has (L : List Rc) (h : ∀ t ∈ L, t.emp = false) (p q : Int) : (L.any fun t => t.has p q) = setB L p q := by
  unfold setB
  induction L with
  | nil => rfl
  | cons t L ih => rw [List.any_cons, List.any_cons, has_in t (h t (List.mem_cons_self ..)), ih fun u hu => h u (List.mem_cons_of_mem _ hu)]
set_option maxHeartbeats 2000000 in
theorem c50 (t : Rc) (px py : Int) (Bp : Nat) (w : World) (hB : Bp < w.heap.size) (h0 : w.cell? ⟨Bp, 0, none⟩ = some (.int .i64 px)) (h1 : w.cell? ⟨Bp, 1, none⟩ = some (.int .i64 py)) :
    Calls Try.prog 50 #[.agg #[.int .i64 t.x, .int .i64 t.y, .int .i64 t.w, .int .i64 t.h], .pointer (some ⟨Bp, 0, none⟩)] w fun e w' => e = .returned (.bool (t.has px py)) ∧ Below w.heap.size w w' := by
  have ce := fun W => p17 t.x t.y t.w t.h px py W
  have hS : (⟨t.x, t.y, t.w, t.h⟩ : Rc) = t := rfl
  rw [hS] at ce
  have CE := Lib.hid ce
  clear ce hS
  go_enter Try.func50, Try.ntmps50
  go_wp2_with (go_at_call 34; ((with_reducible refine (CE.out _).mono ?_)); rintro e w1 ⟨rfl, hg⟩)
  go_ret
  exact ⟨rfl, ((Below.refl _ _).alloc (Nat.le_refl _) _).trans (hg.1.mono (by simp))⟩
set_option maxHeartbeats 2000000 in
set_option maxRecDepth 100000 in
theorem c73 (v : Value) (L : List Rc) (px py : Int) (Bp : Nat) (w : World) (h : argR w w.heap.size v L) (hl : L.length ≤ 1048576) (hB : Bp < w.heap.size) (h0 : w.cell? ⟨Bp, 0, none⟩ = some (.int .i64 px)) (h1 : w.cell? ⟨Bp, 1, none⟩ = some (.int .i64 py)) :
    Calls Try.prog 73 #[v, .func (.func 50) #[] #[.pointer (some ⟨Bp, 0, none⟩)]] w fun e w' => ∃ i : Int, e = .returned (.int .i64 i) ∧ decide (0 ≤ i) = (L.any fun t => t.has px py) ∧ Below w.heap.size w w' := by
  have eg : ∀ args w, (callFunc 50 args).run Try.prog w = .ok (.enter 50 args) w := enters_of Try.func50 (by kernel_rfl) rfl
  have cp := fun t W (hW : Below w.heap.size w W) => c50 t px py Bp W (Nat.lt_of_lt_of_le hB hW.size) ((hW.cell (p := ⟨Bp, 0, none⟩) hB).trans h0) ((hW.cell (p := ⟨Bp, 1, none⟩) hB).trans h1)
  obtain ⟨ao, cap, rfl, h⟩ := h
  obtain ⟨n, hn⟩ : ∃ n, L.length = n := ⟨_, rfl⟩
  rw [hn] at h hl ⊢
  have HN := Lib.hid hn
  have H := Lib.hid h
  have CP := Lib.hid cp
  clear h hn cp h0 h1
  go_enter Try.func73, Try.ntmps73
  go_wp2
  go_loopw [8] (fun i wr => ∃ k : Nat, k ≤ n ∧ i = .int .i64 (k : Int) ∧ (∀ j, j < k → (L.getD j Rc.zero).has px py = false) ∧ Below w.heap.size w wr) (fun i _ => (n - (intOf i).toNat))
  case atStart => exact ⟨0, by omega, rfl, fun j hj => absurd hj (Nat.not_lt_zero j), Below.refl _ _⟩
  case round =>
    obtain ⟨k, hk, rfl, hsm, hnx⟩ := hrel
    have HS := Lib.hid hsm
    clear hsm
    by_cases hlt : k < n
    · obtain ⟨g, o, rfl, hblk, hc⟩ := H.out (by omega)
      obtain ⟨f0, f1, f2, f3⟩ := hc k hlt
      replace f0 := (hnx.cell (p := ⟨g, o + k * 4, none⟩) hblk).trans f0
      replace f1 := (hnx.cell (p := ⟨g, o + k * 4 + 1, none⟩) hblk).trans f1
      replace f2 := (hnx.cell (p := ⟨g, o + k * 4 + 2, none⟩) hblk).trans f2
      replace f3 := (hnx.cell (p := ⟨g, o + k * 4 + 3, none⟩) hblk).trans f3

      have cS := fun W (hW : Below w.heap.size w W) => CP.out (L.getD k Rc.zero) W hW
      have kk : IntKind.i64.wrap ((k : Int) + 1) = (k : Int) + 1 := IntWalk.i64_in _ (by omega)
      clear hc
      cases hv : (L.getD k Rc.zero).has px py
      · have EX := Lib.hid (fun j (hj : j < k + 1) => (show (L.getD j Rc.zero).has px py = false from by
          rcases Nat.lt_or_eq_of_le (Nat.le_of_lt_succ hj) with h | h
          · exact HS.out j h
          · rw [h]; exact hv))
        rw [hv] at cS
        generalize L.getD k Rc.zero = S at *
        have CS := Lib.hid cS
        clear cS HS hv
        go_wp2_with (go_at_fn 50; ((with_reducible refine (CS.out _ (by first | exact hnx | exact hnx.alloc hnx.size _)).mono ?_)); rintro e w1 ⟨rfl, hg⟩)
        go_roundw
        case rel => exact ⟨k + 1, by omega, by simp, EX.out, hnx.trans (hg.mono hnx.size)⟩
        case measure => simp [intOf]; omega
      · have hany : (L.any fun t => t.has px py) = true := List.any_eq_true.2 ⟨_, getR_mem (L := L) (k := k) (by rw [HN.out]; exact hlt), hv⟩
        have HA : Hid (decide ((0 : Int) ≤ (k : Int)) = (L.any fun t => t.has px py)) := Lib.hid (by rw [hany]; simp)
        rw [hv] at cS
        generalize L.getD k Rc.zero = S at *
        have CS := Lib.hid cS
        clear cS HS hv hany
        go_wp2_with (go_at_fn 50; ((with_reducible refine (CS.out _ (by first | exact hnx | exact hnx.alloc hnx.size _)).mono ?_)); rintro e w1 ⟨rfl, hg⟩)
        go_ret
        exact ⟨_, rfl, HA.out, hnx.trans (hg.mono hnx.size)⟩
    · obtain rfl : k = n := by omega
      have hany : (L.any fun t => t.has px py) = false := by
        rw [List.any_eq_false]
        intro t ht
        obtain ⟨j, hj, rfl⟩ := List.getElem_of_mem ht
        have := HS.out j (by rw [← HN.out]; exact hj)
        rw [List.getD_eq_getElem?_getD, List.getElem?_eq_getElem hj] at this
        simpa using this
      have HA : Hid (decide ((0 : Int) ≤ -1) = (L.any fun t => t.has px py)) := Lib.hid (by rw [hany]; rfl)
      clear HS hany
      go_wp2
      go_ret
      exact ⟨_, rfl, HA.out, hnx⟩
set_option maxHeartbeats 2000000 in
theorem c48 (v : Value) (L : List Rc) (px py : Int) (Bp : Nat) (w : World) (h : argR w w.heap.size v L) (hl : L.length ≤ 1048576) (hB : Bp < w.heap.size) (h0 : w.cell? ⟨Bp, 0, none⟩ = some (.int .i64 px)) (h1 : w.cell? ⟨Bp, 1, none⟩ = some (.int .i64 py)) :
    Calls Try.prog 48 #[v, .func (.func 50) #[] #[.pointer (some ⟨Bp, 0, none⟩)]] w fun e w' => e = .returned (.bool (L.any fun t => t.has px py)) ∧ Below w.heap.size w w' := by
  have C := Lib.hid (c73 v L px py Bp w h hl hB h0 h1)
  generalize (L.any fun t => t.has px py) = r at *
  clear h h0 h1
  go_enter Try.func48, Try.ntmps48
  go_wp2_with (go_at_call 73; fail)
  refine C.out.mono ?_
  rintro e w1 ⟨i, rfl, hi, hg⟩
  have HI := Lib.hid hi
  clear hi
  go_wp2
  go_ret
  exact ⟨ret_bool HI.out, hg⟩
set_option maxHeartbeats 2000000 in
theorem c23 (v : Value) (A : List Rc) (px py : Int) (w : World) (h : argR w w.heap.size v A) (cu : capOk v) :
    Calls Try.prog 23 #[v, .agg #[.int .i64 px, .int .i64 py]] w fun e w' => e = .returned (.bool (setB (partF A) px py)) ∧ Below w.heap.size w w' := by
  have c1 := fun W (hW : Below w.heap.size w W) => p49 v A W ((h.below hW).mono hW.size) cu
  have hl := partF_len A
  have hs := any_has (partF A) (fun t ht => part_ne ht) px py
  have C1 := Lib.hid c1
  generalize partF A = L at *
  rw [← hs]
  clear hs h cu c1
  go_enter Try.func23, Try.ntmps23
  go_wp2_with (go_at_call 49; fail)
  refine (C1.out _ ((Below.refl _ _).alloc (Nat.le_refl _) _)).mono ?_
  rintro e w1 ⟨x, rfl, hg, hown⟩
  have z0 : w1.cell? ⟨w.heap.size, 0, none⟩ = some (.int .i64 px) := (hg.cell (by simp)).trans (by simp)
  have z1 : w1.cell? ⟨w.heap.size, 1, none⟩ = some (.int .i64 py) := (hg.cell (by simp)).trans (by simp)
  have hz : w.heap.size < w1.heap.size := by have := hg.size; simp at this; omega
  have C2 := Lib.hid (c48 x L px py w.heap.size w1 (argR_own hown) (by omega) hz z0 z1)
  go_wp2_with (go_at_call 48; fail)
  refine C2.out.mono ?_
  rintro e w2 ⟨rfl, hg2⟩
  go_wp2
  go_ret
  exact ⟨rfl, (((Below.refl _ _).alloc (Nat.le_refl _) _).trans (hg.mono (by simp))).trans (hg2.mono (by omega))⟩
end

section
open Go.RowKit
set_option maxHeartbeats 400000
set_option linter.unusedVariables false

/-- the rectangle of corners. -/
def Cor.rc (c : Cor) : Rc := ⟨c.x0, c.y0, c.x1 - c.x0, c.y1 - c.y0⟩
def Cor.ok (c : Cor) : Prop := -1048576 ≤ c.x0 ∧ c.x0 < c.x1 ∧ c.x1 ≤ 1048576 ∧ -1048576 ≤ c.y0 ∧ c.y0 < c.y1 ∧ c.y1 ≤ 1048576
theorem cor_step {c : Cor} {t : Rc} (hc : c.ok) (ht : t.emp = false) : (c.step t).ok ∧ c.rc.join t = (c.step t).rc := by
  have hw := ne_ways t ht
  obtain ⟨c1, c2, c3, c4, c5, c6⟩ := hc
  have hce : c.rc.emp = false := ne_of _ (by unfold Cor.rc; simp only; omega)
  have hcw := ne_ways _ hce
  have hk : (c.step t).ok := by
    unfold Cor.step Cor.ok
    simp only
    refine ⟨?_, ?_, ?_, ?_, ?_, ?_⟩ <;> (split <;> (try split) <;> omega)
  refine ⟨hk, ?_⟩
  rw [join_ne hce ht]
  obtain ⟨e1, e2, e3, e4, _⟩ := hw
  obtain ⟨d1, d2, d3, d4, _⟩ := hcw
  rw [e1, e2, e3, e4, d1, d2, d3, d4]
  unfold rcOf Cor.rc Cor.step
  simp only
  rw [if_neg (by omega)]
  congr 1
  · split <;> omega
  · split <;> omega
  · split <;> split <;> omega
  · split <;> split <;> omega
theorem cor_of {t : Rc} (ht : t.emp = false) : (Cor.of t).ok ∧ (Cor.of t).rc = t ∧ Rc.zero.join t = t := by
  have hw := ne_ways t ht
  refine ⟨by unfold Cor.of Cor.ok; simp only; omega, ?_, ?_⟩
  · obtain ⟨x, y, w, h⟩ := t
    unfold Cor.of Cor.rc
    simp only
    congr 1 <;> omega
  · unfold Rc.join
    rw [emp_zero, ht]
    rfl
def joinF (L : List Rc) (k : Nat) : Rc := (L.take k).foldl Rc.join Rc.zero
theorem joinF_succ (L : List Rc) (k : Nat) (h : k < L.length) : joinF L (k + 1) = (joinF L k).join (L.getD k Rc.zero) := by
  unfold joinF
  rw [List.take_succ_eq_append_getElem h, List.foldl_append, List.getD_eq_getElem?_getD (i := k), List.getElem?_eq_getElem h]
  rfl
theorem cor_self {t : Rc} : (Cor.of t).step t = Cor.of t := by
  unfold Cor.of Cor.step
  simp
theorem joinF_cor (L : List Rc) (hne : ∀ t ∈ L, t.emp = false) : ∀ k, k < L.length → (corF L (k + 1)).ok ∧ joinF L (k + 1) = (corF L (k + 1)).rc
  | 0, hk => by
    have ht := hne _ (getR_mem (L := L) (k := 0) hk)
    obtain ⟨h1, h2, h3⟩ := cor_of ht
    rw [joinF_succ L 0 hk, corF_succ L 0 hk]
    have e0 : corF L 0 = Cor.of (L.getD 0 Rc.zero) := rfl
    have e1 : joinF L 0 = Rc.zero := rfl
    rw [e0, e1, cor_self, h2, h3]
    exact ⟨h1, rfl⟩
  | k + 1, hk => by
    obtain ⟨h1, h2⟩ := joinF_cor L hne k (by omega)
    have ht := hne _ (getR_mem (L := L) (k := k + 1) hk)
    obtain ⟨h3, h4⟩ := cor_step h1 ht
    rw [joinF_succ L (k + 1) hk, corF_succ L (k + 1) hk, h2]
    exact ⟨h3, h4⟩
theorem joinF_box (L : List Rc) (hne : ∀ t ∈ L, t.emp = false) : joinF L L.length = boxF L := by
  cases L with
  | nil => rfl
  | cons t L =>
    have := (joinF_cor (t :: L) hne L.length (by simp)).2
    exact this
def argHi (W : World) (B : Nat) (ao : Option Addr) (n : Nat) (L : List Rc) : Prop := 0 < n → ∃ g o, ao = some ⟨g, o, none⟩ ∧ B ≤ g ∧ g < W.heap.size ∧ ∀ k, k < n →
    W.cell? ⟨g, o + k * 4, none⟩ = some (.int .i64 (L.getD k Rc.zero).x) ∧ W.cell? ⟨g, o + k * 4 + 1, none⟩ = some (.int .i64 (L.getD k Rc.zero).y) ∧
    W.cell? ⟨g, o + k * 4 + 2, none⟩ = some (.int .i64 (L.getD k Rc.zero).w) ∧ W.cell? ⟨g, o + k * 4 + 3, none⟩ = some (.int .i64 (L.getD k Rc.zero).h)
theorem argHi.gr {W W' : World} {B : Nat} {ao : Option Addr} {n : Nat} {L : List Rc} (h : argHi W B ao n L) (hb : Below W.heap.size W W') : argHi W' B ao n L := by
  intro h0
  obtain ⟨g, o, e, h1, h2, hc⟩ := h h0
  refine ⟨g, o, e, h1, Nat.lt_of_lt_of_le h2 hb.size, fun k hk => ?_⟩
  obtain ⟨f0, f1, f2, f3⟩ := hc k hk
  exact ⟨(hb.cell (p := ⟨g, o + k * 4, none⟩) h2).trans f0, (hb.cell (p := ⟨g, o + k * 4 + 1, none⟩) h2).trans f1, (hb.cell (p := ⟨g, o + k * 4 + 2, none⟩) h2).trans f2, (hb.cell (p := ⟨g, o + k * 4 + 3, none⟩) h2).trans f3⟩
theorem argHi.set {W : World} {B : Nat} {ao : Option Addr} {n : Nat} {L : List Rc} (h : argHi W B ao n L) (b j : Nat) (x : Value) (hp : b < B) : argHi (W.setCell ⟨b, j, none⟩ x) B ao n L := by
  intro h0
  obtain ⟨g, o, e, h1, h2, hc⟩ := h h0
  have hne : g ≠ b := by omega
  refine ⟨g, o, e, h1, by simpa using h2, fun k hk => ?_⟩
  obtain ⟨f0, f1, f2, f3⟩ := hc k hk
  simp [go_sem, *]
theorem below_set4 {B : Nat} {a W : World} (h : Below B a W) {b : Nat} (hp : B ≤ b) (x y z u : Value) : Below B a ((((W.setCell ⟨b, 0, none⟩ x).setCell ⟨b, 1, none⟩ y).setCell ⟨b, 2, none⟩ z).setCell ⟨b, 3, none⟩ u) :=
  (((h.setCell hp x).setCell hp y).setCell hp z).setCell hp u
set_option maxHeartbeats 4000000 in
set_option maxRecDepth 100000 in
theorem c27 (v : Value) (A : List Rc) (w : World) (h : argR w w.heap.size v A) (cu : capOk v) :
    Calls Try.prog 27 #[v] w fun e w' => e = .returned (Rc.val (boxF (partF A))) ∧ Below w.heap.size w w' := by
  have c1 := fun W (hW : Below w.heap.size w W) => p49 v A W ((h.below hW).mono hW.size) cu
  have hl := partF_len A
  have hne := Lib.hid (fun t (ht : t ∈ partF A) => part_ne ht)
  have C1 := Lib.hid c1
  generalize partF A = L at *
  rw [← joinF_box L hne.out]
  clear h cu c1
  go_enter Try.func27, Try.ntmps27
  go_wp2_with (go_at_call 49; fail)
  refine (C1.out _ (by first | exact (Below.refl _ _).alloc (Nat.le_refl _) _ | exact ((Below.refl _ _).alloc (Nat.le_refl _) _).alloc (by simp) _)).mono ?_
  rintro e w1 ⟨x, rfl, hg, own1⟩
  obtain ⟨ao, cap, rfl, h⟩ := argR_own own1
  obtain ⟨n, hn⟩ : ∃ n, L.length = n := ⟨_, rfl⟩
  rw [hn] at h hl own1
  have HN := Lib.hid hn
  rw [hn]
  clear hn
  have hz : w.heap.size + 1 < w1.heap.size := by have := hg.size; simp at this; omega
  have hA : argHi w1 (w.heap.size + 2) ao n L := fun h0 => by
    obtain ⟨g, o, rfl, hb, hc⟩ := h h0
    exact ⟨g, o, rfl, by have := (own1.lt g rfl).1; simpa using this, hb, hc⟩
  have r2 : rec4 w1 w.heap.size 0 0 0 0 := rec4.below (rec4.alloc (rec4.new w 0 0 0 0 33) _ (by simp)) hg (by simp <;> omega)
  have r3 : rec4 w1 (w.heap.size + 1) 0 0 0 0 := rec4.below ((rec4.new (w.alloc (.cells #[.int .i64 0, .int .i64 0, .int .i64 0, .int .i64 0] 33)) 0 0 0 0 33).at (by simp)) hg (by simp)
  have hw1 : Below w.heap.size w w1 := (((Below.refl _ _).alloc (Nat.le_refl _) _).alloc (by simp) _).trans (hg.mono (by simp; omega))
  clear h own1 hg
  go_wp2
  go_loopw [9] (fun i wr => ∃ k : Nat, k ≤ n ∧ i = .int .i64 (k : Int) ∧ rec4 wr (w.heap.size + 1) (joinF L k).x (joinF L k).y (joinF L k).w (joinF L k).h ∧ rec4 wr w.heap.size 0 0 0 0 ∧ argHi wr (w.heap.size + 2) ao n L ∧ Below w.heap.size w wr ∧ w.heap.size + 1 < wr.heap.size) (fun i _ => (n - (intOf i).toNat))
  case atStart => exact ⟨0, by omega, rfl, r3, r2, hA, hw1, hz⟩
  case round =>
    obtain ⟨k, hk, rfl, rj, rz, hA, hnx, hz⟩ := hrel
    have q := rj
    obtain ⟨⟨j0, j1, j2, j3⟩, g0, g1, g2, g3⟩ := q
    by_cases hlt : k < n
    · have hA0 := hA
      obtain ⟨g, o, rfl, hB, hgw, hc⟩ := hA (by omega)
      obtain ⟨f0, f1, f2, f3⟩ := hc k hlt
      have hjs := joinF_succ L k (by rw [HN.out]; exact hlt)
      clear hc hA
      generalize L.getD k Rc.zero = S at *
      generalize joinF L k = J at *
      have ce := fun W => p25 J.x J.y J.w J.h S.x S.y S.w S.h W
      have hS : (⟨S.x, S.y, S.w, S.h⟩ : Rc) = S := rfl
      have hJ : (⟨J.x, J.y, J.w, J.h⟩ : Rc) = J := rfl
      rw [hS, hJ, ← hjs] at ce
      unfold Rc.val at ce
      clear hS hJ hjs
      obtain ⟨M, hM⟩ : ∃ M, joinF L (k + 1) = M := ⟨_, rfl⟩
      rw [hM] at ce
      have HM := Lib.hid hM
      clear hM
      have CE := Lib.hid ce
      have RJ := Lib.hid rj
      have RZ := Lib.hid rz
      have HA := Lib.hid hA0
      have kk : IntKind.i64.wrap ((k : Int) + 1) = (k : Int) + 1 := IntWalk.i64_in _ (by omega)
      have hne : w.heap.size ≠ w.heap.size + 1 := by omega
      clear ce rj rz hA0
      go_wp2_with (go_at_call 53; fail)
      refine (CE.out _).mono ?_
      rintro e w2 ⟨rfl, hg2⟩
      have hgg : Below wr.heap.size wr w2 := ((Below.refl _ _).alloc (Nat.le_refl _) _).trans (hg2.1.mono (by simp))
      have rj2 := rec4.below RJ.out hgg hz
      have rz2 := rec4.below RZ.out hgg (by omega)
      have hA2 := HA.out.gr hgg
      have hnx2 := hnx.trans (hgg.mono hnx.size)
      have hz2 : w.heap.size + 1 < w2.heap.size := Nat.lt_of_lt_of_le hz hgg.size
      have q := rj2
      obtain ⟨⟨i0, i1, i2, i3⟩, e0, e1, e2, e3⟩ := q
      have R2 := Lib.hid rj2
      have Z2 := Lib.hid rz2
      have A2 := Lib.hid hA2
      have N2 := Lib.hid hnx2
      clear rj2 rz2 hA2 hnx2 hg2 hgg j0 j1 j2 j3 g0 g1 g2 g3 f0 f1 f2 f3
      go_wp2
      go_roundw
      case rel => exact ⟨k + 1, by omega, by simp, by rw [HM.out]; exact rec4.own R2.out, rec4.other Z2.out _ _ _ _ (by omega), (((A2.out.set _ _ _ (by omega)).set _ _ _ (by omega)).set _ _ _ (by omega)).set _ _ _ (by omega), below_set4 N2.out (by omega) _ _ _ _, by simpa using hz2⟩
      case measure => simp [intOf]; omega
    · obtain rfl : k = n := by omega
      have q2 := rz
      obtain ⟨⟨i0, i1, i2, i3⟩, e0, e1, e2, e3⟩ := q2
      have HNX := Lib.hid hnx
      clear rj rz hA hnx
      obtain ⟨J, hJ⟩ : ∃ M, joinF L k = M := ⟨_, rfl⟩
      rw [hJ] at j0 j1 j2 j3
      have HJ : Hid (Rc.val (joinF L L.length) = .agg #[.int .i64 J.x, .int .i64 J.y, .int .i64 J.w, .int .i64 J.h]) := Lib.hid (by rw [HN.out, hJ]; rfl)
      clear hJ
      go_wp2
      exact bodyPost_ret (v := .agg #[.int .i64 J.x, .int .i64 J.y, .int .i64 J.w, .int .i64 J.h]) (by simp [results, Try.results27, go_sem, *]) rfl ⟨by rw [HJ.out], below_set4 HNX.out (Nat.le_refl _) _ _ _ _⟩
end

end Go.Proofs.Ythknkgblddoapaa
