import Derived.Test.YthknkgblddoapaaProg
import Derived.WalkKit
import Derived.WalkLawsBesides
import Derived.Outline
import Derived.Lib.Walk
import Derived.Deep.QuietTactic
import Derived.BigQuiet
import Derived.RowKit3
import Derived.Deep.LoopGhost
import Derived.Great.Walk
import Derived.Great.BuildSlice
import Derived.Laws.Rows
import Derived.Laws.Tables
import Derived.Laws.CopyOwn
import Derived.Lib.Hide
import Derived.Handy
import Derived.Deep.Onto
import Derived.Deep.RegionHeld3
import Derived.Shelf.SlGeneric
import Derived.Shelf.SlSortCmp.WholeK
import Derived.Shelf.SlSortCmp.NoneTotal
import Derived.Shelf.SlicesQ.IndexFunc
import Derived.Ground.SlsfProg
import Derived.Ground.SlgfProg
import Derived.Shelf.Sort.Plain
import Derived.Ground.Names2Prog
import Derived.Shelf.Slices.CompactI
import Derived.Shelf.Slices.In.SortNone
import Derived.Sort.OwnSortedInts
import Derived.Test.YthknkgblddoapaaMA
import Derived.Test.YthknkgblddoapaaMB
import Derived.Test.YthknkgblddoapaaMC
import Derived.Test.YthknkgblddoapaaMD
namespace Go.Proofs.Ythknkgblddoapaa

section
open Go.RowKit
set_option maxHeartbeats 400000
set_option linter.unusedVariables false

/-- a slice no longer than its room. -/
def capOk (v : Value) : Prop := ∀ ao n cap, v = .slice ao n cap → (n ≤ cap ∧ cap ≤ maxLen)
set_option maxHeartbeats 2000000 in
set_option maxRecDepth 100000 in
theorem p49 (v : Value) (L : List Rc) (w : World) (h : argR w w.heap.size v L) (hv : capOk v) :
    Calls Try.prog 49 #[v] w fun e w' => ∃ u, e = .returned u ∧ Below w.heap.size w w' ∧ w'.ownsRow w.heap.size 33 4 u (partF L).length (cellsR (partF L)) := by
  obtain ⟨ao, cap, rfl, h⟩ := h
  obtain ⟨hl, hcap⟩ := hv _ _ _ rfl
  clear hv
  unfold maxLen at hcap
  obtain ⟨n, hn⟩ : ∃ n, L.length = n := ⟨_, rfl⟩
  rw [hn] at h hl
  obtain ⟨m, hm⟩ : ∃ m : Nat, min (n : Int) 256 = ((m : Nat) : Int) := ⟨min n 256, by omega⟩
  have hmm : m ≤ n ∧ m ≤ 256 ∧ (m = n ∨ m = 256) := by omega
  have hcm : m ≤ cap := by omega
  have hmx : max ((m : Nat) : Int) 0 = (m : Int) := by omega
  have hmt : ((m : Nat) : Int).toNat = m := by omega
  have HN := Lib.hid hn
  rw [hn]
  clear hn
  have H := Lib.hid h
  clear h
  obtain ⟨i0, hi, hz0', hz1, hz2⟩ := info_parts info23
  go_enter Try.func49, Try.ntmps49
  go_wp2
  clear hm hmx hmt
  obtain ⟨hm1, hm2, hm3⟩ := hmm
  go_loopw [3, 12] (fun s i wr => ∃ k : Nat, k ≤ m ∧ i = .int .i64 (k : Int) ∧ wr.ownsRow w.heap.size 33 4 s (kep L k).length (cellsR (kep L k)) ∧ Below w.heap.size w wr) (fun _ i _ => (m - (intOf i).toNat))
  case atStart => exact ⟨0, by omega, rfl, World.ownsRow_nil _ _ _ _, Below.refl _ _⟩
  case round =>
    obtain ⟨k, hk, rfl, hown, hnx⟩ := hrel
    by_cases hlt : k < m
    · obtain ⟨g, o, rfl, hblk, hc⟩ := H.out (by omega)
      obtain ⟨f0, f1, f2, f3⟩ := hc k (by omega)
      replace f0 := (hnx.cell (p := ⟨g, o + k * 4, none⟩) hblk).trans f0
      replace f1 := (hnx.cell (p := ⟨g, o + k * 4 + 1, none⟩) hblk).trans f1
      replace f2 := (hnx.cell (p := ⟨g, o + k * 4 + 2, none⟩) hblk).trans f2
      replace f3 := (hnx.cell (p := ⟨g, o + k * 4 + 3, none⟩) hblk).trans f3
      have hh := Lib.hid (kep_hit L k (by rw [HN.out]; omega))
      have hm' := Lib.hid (kep_miss L k (by rw [HN.out]; omega))
      have kl := kep_le L k
      clear hc
      generalize L.getD k Rc.zero = S at *
      have ce := fun w => p15 S.x S.y S.w S.h w
      have kk : IntKind.i64.wrap ((k : Int) + 1) = (k : Int) + 1 := IntWalk.i64_in _ (by omega)
      have hS : (⟨S.x, S.y, S.w, S.h⟩ : Rc) = S := rfl
      rw [hS] at ce
      clear hS
      have z0 : (wr.alloc (.cells #[.int .i64 S.x, .int .i64 S.y, .int .i64 S.w, .int .i64 S.h] 33)).cell? ⟨wr.heap.size, 0, none⟩ = some (.int .i64 S.x) := by simp
      have z1 : (wr.alloc (.cells #[.int .i64 S.x, .int .i64 S.y, .int .i64 S.w, .int .i64 S.h] 33)).cell? ⟨wr.heap.size, 1, none⟩ = some (.int .i64 S.y) := by simp
      have z2 : (wr.alloc (.cells #[.int .i64 S.x, .int .i64 S.y, .int .i64 S.w, .int .i64 S.h] 33)).cell? ⟨wr.heap.size, 2, none⟩ = some (.int .i64 S.w) := by simp
      have z3 : (wr.alloc (.cells #[.int .i64 S.x, .int .i64 S.y, .int .i64 S.w, .int .i64 S.h] 33)).cell? ⟨wr.heap.size, 3, none⟩ = some (.int .i64 S.h) := by simp
      cases hem : S.emp
      · rw [hem] at ce
        have CE := Lib.hid ce
        have e1 := hh.out hem
        have e2 : (kep L (k + 1)).length = (kep L k).length + 1 := by rw [e1]; simp
        have e3 : cellsR (kep L (k + 1)) = cellsR (kep L k) ++ [.int .i64 S.x, .int .i64 S.y, .int .i64 S.w, .int .i64 S.h] := by rw [e1, cellsR_append]; rfl
        have E2 := Lib.hid e2
        have E3 := Lib.hid e3
        clear ce hh hm' e1 e2 e3 hem
        go_wp2_with (first | (go_at_call 64; ((with_reducible refine (CE.out _).mono ?_)); rintro e w1 ⟨rfl, hg⟩; obtain ⟨hc1, hf1⟩ := bcell hg.1; have hzw : wr.heap.size < w1.heap.size := (by have := hg.1.size; simp at this; omega); have c0 := (hc1 wr.heap.size 0 (by simp)).trans z0; have c1 := (hc1 wr.heap.size 1 (by simp)).trans z1; have c2 := (hc1 wr.heap.size 2 (by simp)).trans z2; have c3 := (hc1 wr.heap.size 3 (by simp)).trans z3; clear hc1 hf1 z0 z1 z2 z3; replace hown := ownsRow_below (ownsRow_below hown ((Below.refl _ _).alloc (Nat.le_refl _) _)) hg.1; replace hnx := Below.trans (hnx.alloc hnx.size _) (hg.1.mono (by have := hnx.size; simp; omega))) | (at_builtin; refine wpList_append_own _ rfl _ _ 22 rfl w.heap.size 33 i0 (.agg #[.int .i64 0, .int .i64 0, .int .i64 0, .int .i64 0]) 4 32 Try.underlying22 hi hz0' hz1 hz2 rfl (by decide) _ _ _ rfl (hown.alloc _) ⟨w1.heap.size, 0, none⟩ 1 1 [.int .i64 S.x, .int .i64 S.y, .int .i64 S.w, .int .i64 S.h] rfl rfl ?c1 ?c2 ?c3 ?c4 ?c5 ?_))
        case c1 =>
          intro j u hj
          match j, hj with
          | 0, hj => simp at hj; subst hj; simp [Addr.add]
          | 1, hj => simp at hj; subst hj; simp [Addr.add]
          | 2, hj => simp at hj; subst hj; simp [Addr.add]
          | 3, hj => simp at hj; subst hj; simp [Addr.add]
        case c2 => intro u hu; simp at hu; rcases hu with rfl | rfl | rfl | rfl <;> rfl
        case c3 => unfold maxLen; omega
        case c4 => omega
        case c5 => have := hnx.size; simp; omega
        intro v' w3 hown' hgrow _
        have hnx3 : Below w.heap.size w w3 := rel_append hnx hown (Gr.refl _) hnx.size hgrow
        rw [← E2.out, ← E3.out] at hown'
        clear hgrow hown hnx f0 f1 f2 f3
        go_wp2
        go_roundw
        case rel => exact ⟨k + 1, by omega, by simp, hown', hnx3⟩
        case measure => simp [intOf]; omega
      · rw [hem] at ce
        have CE := Lib.hid ce
        have HM := Lib.hid (hm'.out hem)
        clear ce hh hm' hem
        go_wp2_with (first | (go_at_call 64; ((with_reducible refine (CE.out _).mono ?_)); rintro e w1 ⟨rfl, hg⟩; obtain ⟨hc1, hf1⟩ := bcell hg.1; have hzw : wr.heap.size < w1.heap.size := (by have := hg.1.size; simp at this; omega); have c0 := (hc1 wr.heap.size 0 (by simp)).trans z0; have c1 := (hc1 wr.heap.size 1 (by simp)).trans z1; have c2 := (hc1 wr.heap.size 2 (by simp)).trans z2; have c3 := (hc1 wr.heap.size 3 (by simp)).trans z3; clear hc1 hf1 z0 z1 z2 z3; replace hown := ownsRow_below (ownsRow_below hown ((Below.refl _ _).alloc (Nat.le_refl _) _)) hg.1; replace hnx := Below.trans (hnx.alloc hnx.size _) (hg.1.mono (by have := hnx.size; simp; omega))))
        go_roundw
        case rel => exact ⟨k + 1, by omega, by simp, by rw [HM.out]; exact hown, hnx⟩
        case measure => simp [intOf]; omega
    · obtain rfl : k = m := by omega
      have hend : kep L k = partF L := by
        unfold partF
        rcases hm3 with rfl | rfl
        · rw [kep_all L 256 (by rw [HN.out]; omega), HN.out]
        · rfl
      have HE := Lib.hid hend
      clear hend
      go_wp2
      go_ret
      exact ⟨_, rfl, hnx, by rw [← HE.out]; exact hown⟩
end

section
open Go.RowKit
set_option maxHeartbeats 400000
set_option linter.unusedVariables false

set_option maxHeartbeats 1000000 in
theorem p66 (S T : Rc) (w : World) : Calls Try.prog 66 #[.agg #[.int .i64 S.x, .int .i64 S.y, .int .i64 S.w, .int .i64 S.h], .agg #[.int .i64 T.x, .int .i64 T.y, .int .i64 T.w, .int .i64 T.h]] w fun e w' => e = .returned (.bool (decide (S.x = T.x ∧ S.w = T.w))) ∧ Below w.heap.size w w' := by
  by_cases e1 : S.x = T.x
  · by_cases e2 : S.w = T.w
    · have HF := Lib.hid (decide_eq_true (p := S.x = T.x ∧ S.w = T.w) ⟨e1, e2⟩)
      have d1 : (S.x == T.x) = true := by simp [e1]
      have d2 : (S.w == T.w) = true := by simp [e2]
      clear e1 e2
      go_enter Try.func66, Try.ntmps66
      go_wp2
      go_ret
      exact ⟨ret_bool HF.out.symm, by go_grown⟩
    · have HF := Lib.hid (decide_eq_false (p := S.x = T.x ∧ S.w = T.w) fun h => e2 h.2)
      have d1 : (S.x == T.x) = true := by simp [e1]
      have d2 : (S.w == T.w) = false := by simp [e2]
      clear e1 e2
      go_enter Try.func66, Try.ntmps66
      go_wp2
      go_ret
      exact ⟨ret_bool HF.out.symm, by go_grown⟩
  · have HF := Lib.hid (decide_eq_false (p := S.x = T.x ∧ S.w = T.w) fun h => e1 h.1)
    have d1 : (S.x == T.x) = false := by simp [e1]
    clear e1
    go_enter Try.func66, Try.ntmps66
    go_wp2
    go_ret
    exact ⟨ret_bool HF.out.symm, by go_grown⟩
set_option maxHeartbeats 4000000 in
set_option maxRecDepth 100000 in
theorem p65 (u v : Value) (a b : List Rc) (w : World) (la : a.length ≤ 4194304) (lb : b.length ≤ 4194304) (ga : argR w w.heap.size u a) (gb : argR w w.heap.size v b) :
    Calls Try.prog 65 #[u, v, .func (.func 66) #[] #[]] w fun e w' => e = .returned (.bool (decide (colsF a = colsF b))) ∧ Below w.heap.size w w' := by
  have eg : ∀ args w, (callFunc 66 args).run Try.prog w = .ok (.enter 66 args) w := enters_of Try.func66 (by kernel_rfl) rfl
  obtain ⟨ao, cap, rfl, h⟩ := ga
  obtain ⟨bo, cap2, rfl, h'⟩ := gb
  obtain ⟨n, hn⟩ : ∃ n, a.length = n := ⟨_, rfl⟩
  obtain ⟨m, hm⟩ : ∃ m, b.length = m := ⟨_, rfl⟩
  rw [hn] at h la ⊢
  rw [hm] at h' lb ⊢
  have HN := Lib.hid hn
  have HM := Lib.hid hm
  have H := Lib.hid h
  have H' := Lib.hid h'
  clear h h' hn hm
  by_cases hnm : n = m
  · subst hnm
    go_enter Try.func65, Try.ntmps65
    go_wp2
    go_loopw [17] (fun i wr => ∃ k : Nat, k ≤ n ∧ i = .int .i64 (k : Int) ∧ (∀ j, j < k → (a.getD j Rc.zero).x = (b.getD j Rc.zero).x ∧ (a.getD j Rc.zero).w = (b.getD j Rc.zero).w) ∧ Below w.heap.size w wr) (fun i _ => (n - (intOf i).toNat))
    case atStart => exact ⟨0, by omega, rfl, fun j hj => absurd hj (Nat.not_lt_zero j), Below.refl _ _⟩
    case round =>
      obtain ⟨k, hk, rfl, hsm, hnx⟩ := hrel
      have HS := Lib.hid hsm
      clear hsm
      by_cases hlt : k < n
      · obtain ⟨g, o, rfl, hblk, hc⟩ := H.out (by omega)
        obtain ⟨g', o', rfl, hblk', hc'⟩ := H'.out (by omega)
        obtain ⟨f0, f1, f2, f3⟩ := hc k hlt
        obtain ⟨h0, h1, h2, h3⟩ := hc' k hlt
        replace f0 := (hnx.cell (p := ⟨g, o + k * 4, none⟩) hblk).trans f0
        replace f1 := (hnx.cell (p := ⟨g, o + k * 4 + 1, none⟩) hblk).trans f1
        replace f2 := (hnx.cell (p := ⟨g, o + k * 4 + 2, none⟩) hblk).trans f2
        replace f3 := (hnx.cell (p := ⟨g, o + k * 4 + 3, none⟩) hblk).trans f3
        replace h0 := (hnx.cell (p := ⟨g', o' + k * 4, none⟩) hblk').trans h0
        replace h1 := (hnx.cell (p := ⟨g', o' + k * 4 + 1, none⟩) hblk').trans h1
        replace h2 := (hnx.cell (p := ⟨g', o' + k * 4 + 2, none⟩) hblk').trans h2
        replace h3 := (hnx.cell (p := ⟨g', o' + k * 4 + 3, none⟩) hblk').trans h3
        have hgW : g' < wr.heap.size := Nat.lt_of_lt_of_le hblk' hnx.size
        have NE := Lib.hid (cols_ne (a := a) (b := b) (k := k) (by rw [HN.out]; exact hlt) (by rw [HM.out]; exact hlt))
        have EX := Lib.hid (fun (e : (a.getD k Rc.zero).x = (b.getD k Rc.zero).x ∧ (a.getD k Rc.zero).w = (b.getD k Rc.zero).w) j (hj : j < k + 1) => (show (a.getD j Rc.zero).x = (b.getD j Rc.zero).x ∧ (a.getD j Rc.zero).w = (b.getD j Rc.zero).w from by
          rcases Nat.lt_or_eq_of_le (Nat.le_of_lt_succ hj) with h | h
          · exact HS.out j h
          · rw [h]; exact e))
        generalize a.getD k Rc.zero = S at *
        generalize b.getD k Rc.zero = T at *
        have kk : IntKind.i64.wrap ((k : Int) + 1) = (k : Int) + 1 := IntWalk.i64_in _ (by omega)
        have hs := fun W => p66 S T W
        clear hc hc'
        by_cases e1 : S.x = T.x ∧ S.w = T.w
        · have EY := Lib.hid (EX.out e1)
          rw [decide_eq_true e1] at hs
          have C1 := Lib.hid hs
          clear e1 EX NE HS hs
          go_wp2_with (go_at_fn 66; ((with_reducible refine (C1.out _).mono ?_)); rintro e w1 ⟨rfl, hg⟩)
          go_roundw
          case rel => exact ⟨k + 1, by omega, by simp, EY.out, (hnx.alloc hnx.size _ |>.alloc (by simp; have := hnx.size; omega) _).trans (hg.mono (by simp; have := hnx.size; omega))⟩
          case measure => simp [intOf]; omega
        · have HF := Lib.hid (decide_eq_false (NE.out e1))
          rw [decide_eq_false e1] at hs
          have C1 := Lib.hid hs
          clear e1 EX NE HS hs
          go_wp2_with (go_at_fn 66; ((with_reducible refine (C1.out _).mono ?_)); rintro e w1 ⟨rfl, hg⟩)
          go_ret
          exact ⟨ret_bool HF.out.symm, (hnx.alloc hnx.size _ |>.alloc (by simp; have := hnx.size; omega) _).trans (hg.mono (by simp; have := hnx.size; omega))⟩
      · obtain rfl : k = n := by omega
        have HT := Lib.hid (decide_eq_true (cols_eq (a := a) (b := b) (by rw [HN.out, HM.out]) (by rw [HN.out]; exact HS.out)))
        clear HS
        go_wp2
        go_ret
        exact ⟨ret_bool HT.out.symm, hnx⟩
  · have hne : decide (colsF a = colsF b) = false := decide_eq_false fun e => hnm (by have := congrArg List.length e; rw [cols_len, cols_len, HN.out, HM.out] at this; exact this)
    have HE := Lib.hid hne
    have h1 : ¬ ((n : Int) = (m : Int)) := by omega
    clear hne
    go_enter Try.func65, Try.ntmps65
    go_wp2
    go_ret
    exact ⟨ret_bool HE.out.symm, Below.refl _ _⟩
end

section
open Go.RowKit
set_option maxHeartbeats 400000
set_option linter.unusedVariables false

set_option maxHeartbeats 4000000 in
set_option maxRecDepth 100000 in
theorem c39 (u v : Value) (a b : List Rc) (w : World) (la : a.length ≤ 4194304) (lb : b.length ≤ 4194304) (hb : 0 < b.length) (ga : argR w w.heap.size u a) (gb : argR w w.heap.size v b) (ma : ∀ t ∈ a, IntKind.i64.wrap (t.y + t.h) = t.y + t.h) :
    Calls Try.prog 39 #[u, v] w fun e w' => e = .returned (.bool (joinedF a b)) ∧ Below w.heap.size w w' := by
  have cA := fun W (hW : Below w.heap.size w W) => p65 u v a b W la lb ((ga.below hW).mono hW.size) ((gb.below hW).mono hW.size)
  obtain ⟨ao, cap, rfl, h⟩ := ga
  obtain ⟨bo, cap2, rfl, h'⟩ := gb
  by_cases ha : a.length = 0
  · have e : joinedF a b = false := by rw [List.length_eq_zero_iff.1 ha]; rfl
    rw [e, ha]
    clear h h' cA e ma
    go_enter Try.func39, Try.ntmps39
    go_wp2
    first | go_quiet (fail) | skip
    go_wp2
    go_ret
    exact ⟨rfl, by first | exact Below.refl _ _ | exact (Gr.drewN (Gr.refl _) _).1⟩
  · have ha' := Nat.pos_of_ne_zero ha
    obtain ⟨g, o, rfl, hblk, hc⟩ := h ha'
    obtain ⟨g', o', rfl, hblk', hc'⟩ := h' hb
    obtain ⟨f0, f1, f2, f3⟩ := hc 0 ha'
    obtain ⟨k0, k1, k2, k3⟩ := hc' 0 hb
    have kw := ma _ (getR_mem (L := a) (k := 0) ha')
    rw [joinedF_cons a b ha' hb]
    simp only [Nat.zero_mul, Nat.add_zero] at f0 f1 f2 f3 k0 k1 k2 k3
    clear hc hc' ma
    generalize a.getD 0 Rc.zero = S at *
    generalize b.getD 0 Rc.zero = T at *
    generalize decide (colsF a = colsF b) = c at *
    have CA := Lib.hid cA
    obtain ⟨n, hn⟩ : ∃ n, a.length = n := ⟨_, rfl⟩
    obtain ⟨m, hm⟩ : ∃ m, b.length = m := ⟨_, rfl⟩
    rw [hn] at CA ha' la ⊢
    rw [hm] at CA hb lb ⊢
    have h1 : 0 < n := ha'
    have h2 : 0 < m := hb
    have hd := decide_eq_true h1
    have hd2 : decide ((0 : Int) < (n : Int)) = true := decide_eq_true (by omega)
    have he := decide_eq_true h2
    clear hn hm cA ha h h'
    by_cases ey : S.y + S.h = T.y
    · rw [decide_eq_true ey, Bool.true_and]
      have dy : (T.y == S.y + S.h) = true := by simp [ey]
      have kp : ∀ W w1 : World, (fun W => Below w.heap.size w W ∧ W.cell? ⟨g, o + 1, none⟩ = some (.int .i64 S.y) ∧ W.cell? ⟨g, o + 3, none⟩ = some (.int .i64 S.h) ∧ W.cell? ⟨g', o' + 1, none⟩ = some (.int .i64 T.y)) W → Below W.heap.size W w1 → (fun W => Below w.heap.size w W ∧ W.cell? ⟨g, o + 1, none⟩ = some (.int .i64 S.y) ∧ W.cell? ⟨g, o + 3, none⟩ = some (.int .i64 S.h) ∧ W.cell? ⟨g', o' + 1, none⟩ = some (.int .i64 T.y)) w1 := by
        intro W w1 hS hg
        obtain ⟨s0, s1, s2, s3⟩ := hS
        have hz := s0.size
        exact ⟨s0.trans (hg.mono s0.size), (hg.cell (by (try dsimp only); omega)).trans s1, (hg.cell (by (try dsimp only); omega)).trans s2, (hg.cell (by (try dsimp only); omega)).trans s3⟩
      have KP := Lib.hid kp
      have hB0 : Below w.heap.size w w.drew := (Below.refl _ _).drew
      clear kp ey
      go_enter Try.func39, Try.ntmps39
      go_wp2
      go_region_held3 (fun W => Below w.heap.size w W ∧ W.cell? ⟨g, o + 1, none⟩ = some (.int .i64 S.y) ∧ W.cell? ⟨g, o + 3, none⟩ = some (.int .i64 S.h) ∧ W.cell? ⟨g', o' + 1, none⟩ = some (.int .i64 T.y))
        (first | exact ⟨hB0, f1, f3, k1⟩ | assumption | exact KP.out _ _ (by assumption) hg | exact KP.out _ _ (by assumption) (Gr.drewN (Gr.refl _) _).1)
        (first | (go_at_call 65; (with_reducible refine (CA.out _ (And.left (by assumption))).mono ?_); rintro e w1 ⟨rfl, hg⟩))
      go_wp2
      go_ret
      exact ⟨rfl, by first | assumption | exact And.left (by assumption)⟩
    · rw [decide_eq_false ey, Bool.false_and]
      have dy : (T.y == S.y + S.h) = false := by simp; omega
      clear ey
      go_enter Try.func39, Try.ntmps39
      go_wp2
      go_quiet (fail)
      go_wp2
      go_ret
      exact ⟨rfl, (Gr.drewN (Gr.refl _) _).1⟩
end

section
set_option maxHeartbeats 400000
set_option linter.unusedVariables false
/-! The sides of rectangles, by a sweep over their columns: plain facts. -/
/-- a side: the number of its list, its column, its rows from top to bottom (excluded), its step. -/
structure Sd where
  n : Int
  x : Int
  t : Int
  b : Int
  s : Int
def sidesF (l : List Rc) (n : Int) : List Sd := l.flatMap fun r => [⟨n, r.x, r.y, r.y + r.h, 1⟩, ⟨n, r.x + r.w, r.y, r.y + r.h, -1⟩]
/-- the sum of the steps of one list's sides. -/
def cov (n : Int) : List Sd → Int
  | [] => 0
  | s :: l => (if s.n = n then s.s else 0) + cov n l
theorem cov_append (n : Int) : ∀ a b : List Sd, cov n (a ++ b) = cov n a + cov n b
  | [], b => by simp [cov]
  | s :: l, b => by
    have ih := cov_append n l b
    show (if s.n = n then s.s else 0) + cov n (l ++ b) = (if s.n = n then s.s else 0) + cov n l + cov n b
    omega
theorem cov_perm (n : Int) {a b : List Sd} (h : a.Perm b) : cov n a = cov n b := by
  induction h with
  | nil => rfl
  | cons x _ ih => unfold cov; rw [ih]
  | swap x y l => unfold cov; unfold cov; omega
  | trans _ _ i1 i2 => exact i1.trans i2
/-- the number of rectangles that contain a pixel. -/
def cntB (l : List Rc) (p q : Int) : Int := (l.map fun t => ind (inB t p q)).sum
theorem cntB_cons (t : Rc) (l : List Rc) (p q : Int) : cntB (t :: l) p q = ind (inB t p q) + cntB l p q := by unfold cntB; rw [List.map_cons, List.sum_cons]
theorem cntB_pos (l : List Rc) (p q : Int) : 0 ≤ cntB l p q ∧ (0 < cntB l p q ↔ setB l p q = true) := by
  induction l with
  | nil => exact ⟨by simp [cntB], by simp [cntB, setB]⟩
  | cons t l ih =>
    rw [cntB_cons, setB_cons]
    obtain ⟨h1, h2⟩ := ih
    cases e : inB t p q
    · simp only [ind, Bool.false_or]
      exact ⟨by omega, by rw [← h2]; omega⟩
    · simp only [ind, Bool.true_or]
      exact ⟨by omega, by simp; omega⟩
/-- the sides of a row. -/
def Sd.on (y : Int) (s : Sd) : Bool := decide (s.t ≤ y) && decide (y < s.b)
theorem cov_sides (n : Int) (y p : Int) : ∀ (l : List Rc), (∀ t ∈ l, 1 ≤ t.w) → cov n (((sidesF l n).filter (Sd.on y)).filter fun s => decide (s.x ≤ p)) = cntB l p y
  | [], _ => rfl
  | t :: l, h => by
    have ih := cov_sides n y p l fun u hu => h u (List.mem_cons_of_mem _ hu)
    have hw := h t (List.mem_cons_self ..)
    have e : sidesF (t :: l) n = [⟨n, t.x, t.y, t.y + t.h, 1⟩, ⟨n, t.x + t.w, t.y, t.y + t.h, -1⟩] ++ sidesF l n := rfl
    rw [e, List.filter_append, List.filter_append, cov_append, ih, cntB_cons]
    congr 1
    by_cases h1 : t.y ≤ y ∧ y < t.y + t.h
    · have hon : ∀ x s, Sd.on y ⟨n, x, t.y, t.y + t.h, s⟩ = true := fun x s => by simp [Sd.on, h1]
      rw [List.filter_cons_of_pos (hon _ _), List.filter_cons_of_pos (hon _ _), List.filter_nil]
      by_cases h2 : t.x ≤ p
      · by_cases h3 : t.x + t.w ≤ p
        · have hin : inB t p y = false := by unfold inB; simp; omega
          simp [h2, h3, cov, hin, ind]
        · have hin : inB t p y = true := by unfold inB; simp; omega
          simp [h2, h3, cov, hin, ind]
      · have hin : inB t p y = false := by unfold inB; simp; omega
        have h3 : ¬ t.x + t.w ≤ p := by omega
        simp [h2, h3, cov, hin, ind]
    · have hoff : ∀ x s, ¬ Sd.on y ⟨n, x, t.y, t.y + t.h, s⟩ = true := fun x s => by simp [Sd.on]; omega
      rw [List.filter_cons_of_neg (hoff _ _), List.filter_cons_of_neg (hoff _ _), List.filter_nil]
      have hin : inB t p y = false := by unfold inB; simp; omega
      simp [cov, hin, ind]
theorem cov_other (n m : Int) (hn : n ≠ m) (f : Sd → Bool) (g : Sd → Bool) : ∀ (l : List Rc), cov n (((sidesF l m).filter f).filter g) = 0 := by
  intro l
  have : ∀ (k : List Sd), (∀ s ∈ k, s.n = m) → cov n k = 0 := by
    intro k
    induction k with
    | nil => intro _; rfl
    | cons s k ih =>
      intro h
      unfold cov
      rw [ih fun u hu => h u (List.mem_cons_of_mem _ hu), if_neg (by rw [h s (List.mem_cons_self ..)]; exact fun e => hn e.symm)]
      rfl
  refine this _ fun s hs => ?_
  have h1 := (List.mem_filter.1 (List.mem_filter.1 hs).1).1
  obtain ⟨r, _, hr⟩ := List.mem_flatMap.1 h1
  simp only [List.mem_cons, List.not_mem_nil, or_false] at hr
  rcases hr with rfl | rfl <;> rfl
/-- the state of the sweep. -/
structure Sc where
  c0 : Int
  c1 : Int
  start : Int
  op : Bool
  band : List (Int × Int)
def Sc.step (keep : Bool → Bool → Bool) (s : Sd) (last : Bool) (st : Sc) : Sc :=
  let c0 := if s.n = 0 then st.c0 + s.s else st.c0
  let c1 := if s.n = 1 then st.c1 + s.s else st.c1
  if last then
    let k := keep (decide (0 < c0)) (decide (0 < c1))
    ⟨c0, c1, if k && !st.op then s.x else st.start, k, if !k && st.op then st.band ++ [(st.start, s.x - st.start)] else st.band⟩
  else ⟨c0, c1, st.start, st.op, st.band⟩
def lastOf (s : Sd) : List Sd → Bool
  | [] => true
  | u :: _ => !decide (u.x = s.x)
def scan (keep : Bool → Bool → Bool) : List Sd → Sc → Sc
  | [], st => st
  | s :: l, st => scan keep l (Sc.step keep s (lastOf s l) st)
/-- whether a pixel is kept, by the sides up to its column. -/
def keptF (keep : Bool → Bool → Bool) (H : List Sd) (p : Int) : Bool :=
  keep (decide (0 < cov 0 (H.filter fun s => decide (s.x ≤ p)))) (decide (0 < cov 1 (H.filter fun s => decide (s.x ≤ p))))
structure ScOk (keep : Bool → Bool → Bool) (P l : List Sd) (st : Sc) : Prop where
  e0 : st.c0 = cov 0 P
  e1 : st.c1 = cov 1 P
  ok : RunsOk st.band
  set : ∀ p, (∀ u m, l = u :: m → p < u.x) → ((runsHas st.band p ∨ (st.op = true ∧ st.start ≤ p)) ↔ keptF keep (P ++ l) p = true)
  op1 : st.op = true → (∀ r ∈ st.band, r.1 + r.2 < st.start) ∧ ∀ u m, l = u :: m → st.start < u.x
  op0 : st.op = false → ∀ r ∈ st.band, ∀ u m, l = u :: m → r.1 + r.2 < u.x
theorem runsHas_lt {R : List (Int × Int)} {x p : Int} (h : ∀ r ∈ R, r.1 + r.2 < x) (hp : x ≤ p) : ¬ runsHas R p := by
  rintro ⟨r, hr, h1, h2⟩
  have := h r hr
  omega
theorem step_ok {keep : Bool → Bool → Bool} {P l : List Sd} {s : Sd} {st : Sc} (hs : (P ++ s :: l).Pairwise fun a b => a.x ≤ b.x) (h : ScOk keep P (s :: l) st) :
    ScOk keep (P ++ [s]) l (Sc.step keep s (lastOf s l) st) := by
  have hP := List.pairwise_append.1 hs
  have hle : ∀ u ∈ P, u.x ≤ s.x := fun u hu => hP.2.2 u hu s (List.mem_cons_self ..)
  have hge : ∀ u ∈ l, s.x ≤ u.x := (List.pairwise_cons.1 hP.2.1).1
  have es : P ++ [s] ++ l = P ++ s :: l := by simp
  have c0 : (if s.n = 0 then st.c0 + s.s else st.c0) = cov 0 (P ++ [s]) := by
    rw [cov_append, h.e0]; unfold cov; unfold cov; split <;> omega
  have c1 : (if s.n = 1 then st.c1 + s.s else st.c1) = cov 1 (P ++ [s]) := by
    rw [cov_append, h.e1]; unfold cov; unfold cov; split <;> omega
  have old : ∀ p, p < s.x → ((runsHas st.band p ∨ (st.op = true ∧ st.start ≤ p)) ↔ keptF keep (P ++ [s] ++ l) p = true) := by
    intro p hp
    rw [es]
    exact h.set p fun u m e => by injection e with e1 _; subst e1; exact hp
  by_cases hl : lastOf s l = true
  · -- the last side of its column
    have hgt : ∀ u m, l = u :: m → s.x < u.x := by
      intro u m e
      subst e
      have : u.x ≠ s.x := by simpa [lastOf] using hl
      have := hge u (List.mem_cons_self ..)
      omega
    have hall : ∀ p, s.x ≤ p → (∀ u m, l = u :: m → p < u.x) → (P ++ [s] ++ l).filter (fun u => decide (u.x ≤ p)) = P ++ [s] := by
      intro p hp hu
      rw [List.filter_append, List.filter_eq_self.2, List.filter_eq_nil_iff.2, List.append_nil]
      · intro u hul
        cases l with
        | nil => cases hul
        | cons v m =>
          have h1 := hu v m rfl
          have h2 : v.x ≤ u.x := by
            rcases List.mem_cons.1 hul with rfl | hm
            · exact Int.le_refl _
            · exact (List.pairwise_cons.1 (List.pairwise_cons.1 hP.2.1).2).1 u hm
          simp
          omega
      · intro u hul
        have : u.x ≤ s.x := by
          rcases List.mem_append.1 hul with hu' | hu'
          · exact hle u hu'
          · rw [List.mem_singleton] at hu'; subst hu'; exact Int.le_refl _
        simp
        omega
    obtain ⟨k, hk⟩ : ∃ k, keep (decide (0 < cov 0 (P ++ [s]))) (decide (0 < cov 1 (P ++ [s]))) = k := ⟨_, rfl⟩
    have new : ∀ p, s.x ≤ p → (∀ u m, l = u :: m → p < u.x) → keptF keep (P ++ [s] ++ l) p = k := by
      intro p hp hu
      unfold keptF
      rw [hall p hp hu]
      exact hk
    have est : Sc.step keep s (lastOf s l) st = ⟨cov 0 (P ++ [s]), cov 1 (P ++ [s]), if k && !st.op then s.x else st.start, k, if !k && st.op then st.band ++ [(st.start, s.x - st.start)] else st.band⟩ := by
      unfold Sc.step
      rw [hl]
      simp only [c0, c1, hk, if_true]
    rw [est]
    have h1 := h.op1
    have h0 := h.op0
    cases ho : st.op <;> cases k
    · -- closed, and stays closed
      rw [ho] at h0
      have he : ∀ r ∈ st.band, r.1 + r.2 < s.x := fun r hr => h0 rfl r hr s l rfl
      refine ⟨rfl, rfl, h.ok, ?_, fun e => by simp at e, ?_⟩
      · intro p hp
        by_cases hpx : p < s.x
        · rw [← old p hpx, ho]
          simp
        · rw [new p (by omega) hp]
          have := runsHas_lt he (show s.x ≤ p by omega)
          simp [this]
      · intro _ r hr u m e
        have h2 := hgt u m e
        have h3 := he r (by simpa using hr)
        omega
    · -- opens
      rw [ho] at h0
      have he : ∀ r ∈ st.band, r.1 + r.2 < s.x := fun r hr => h0 rfl r hr s l rfl
      refine ⟨rfl, rfl, h.ok, ?_, fun _ => ⟨by simpa using he, by simpa using hgt⟩, fun e => by simp at e⟩
      intro p hp
      by_cases hpx : p < s.x
      · rw [← old p hpx, ho]
        have : ¬ s.x ≤ p := by omega
        simp [this]
      · rw [new p (by omega) hp]
        have : s.x ≤ p := by omega
        simp [this]
    · -- closes
      rw [ho] at h1
      obtain ⟨g1, g2⟩ := h1 rfl
      have g3 := g2 s l rfl
      refine ⟨rfl, rfl, ?_, ?_, fun e => by simp at e, ?_⟩
      · simpa using runs_snoc h.ok (by omega) g1
      · intro p hp
        simp only [Bool.not_false, Bool.and_self, if_true, Bool.false_eq_true, false_and, or_false]
        rw [runsHas_append, runsHas_one]
        simp only
        by_cases hpx : p < s.x
        · rw [← old p hpx, ho]
          constructor
          · rintro (a | a)
            · exact Or.inl a
            · exact Or.inr ⟨rfl, a.1⟩
          · rintro (a | a)
            · exact Or.inl a
            · exact Or.inr ⟨a.2, by omega⟩
        · rw [new p (by omega) hp]
          have := runsHas_lt g1 (show st.start ≤ p by omega)
          simp only [this, false_or, Bool.false_eq_true, iff_false]
          omega
      · intro _ r hr u m e
        have h2 := hgt u m e
        simp only [Bool.not_false, Bool.and_self, if_true, List.mem_append, List.mem_singleton] at hr
        rcases hr with hr | rfl
        · have := g1 r hr
          omega
        · simp only
          omega
    · -- stays open
      rw [ho] at h1
      obtain ⟨g1, g2⟩ := h1 rfl
      have g3 := g2 s l rfl
      refine ⟨rfl, rfl, h.ok, ?_, fun _ => ⟨by simpa using g1, fun u m e => ?_⟩, fun e => by simp at e⟩
      · intro p hp
        by_cases hpx : p < s.x
        · rw [← old p hpx, ho]
          simp
        · rw [new p (by omega) hp]
          have : st.start ≤ p := by omega
          simp [this]
      · have := hgt u m e
        simp
        omega
  · -- more sides of the column follow
    have hl' : lastOf s l = false := by simpa using hl
    cases l with
    | nil => simp [lastOf] at hl'
    | cons v m =>
      have hv : v.x = s.x := by simpa [lastOf] using hl'
      have est : Sc.step keep s (lastOf s (v :: m)) st = ⟨cov 0 (P ++ [s]), cov 1 (P ++ [s]), st.start, st.op, st.band⟩ := by
        unfold Sc.step
        rw [hl']
        simp only [c0, c1]
        rfl
      rw [est]
      refine ⟨rfl, rfl, h.ok, ?_, ?_, ?_⟩
      · intro p hp
        exact old p (by have := hp v m rfl; omega)
      · intro e
        obtain ⟨g1, g2⟩ := h.op1 e
        refine ⟨g1, fun u m' e' => ?_⟩
        injection e' with e1 _
        subst e1
        rw [hv]
        exact g2 s _ rfl
      · intro e r hr u m' e'
        injection e' with e1 _
        subst e1
        rw [hv]
        exact h.op0 e r hr s _ rfl
theorem scan_go {keep : Bool → Bool → Bool} : ∀ (l P : List Sd) (st : Sc), (P ++ l).Pairwise (fun a b => a.x ≤ b.x) → ScOk keep P l st → ScOk keep (P ++ l) [] (scan keep l st)
  | [], P, st, _, h => by rw [List.append_nil]; exact h
  | s :: l, P, st, hs, h => by
    have e : P ++ s :: l = P ++ [s] ++ l := by simp
    have h1 := step_ok hs h
    rw [e] at hs ⊢
    exact scan_go l (P ++ [s]) _ hs h1
def sc0 : Sc := ⟨0, 0, 0, false, []⟩
/-- the runs of a row that the sweep finds. -/
theorem scan_ok {keep : Bool → Bool → Bool} {H : List Sd} (hk : keep false false = false) (hs : H.Pairwise fun a b => a.x ≤ b.x) (h0 : cov 0 H = 0) (h1 : cov 1 H = 0) :
    RunsOk (scan keep H sc0).band ∧ ∀ p, runsHas (scan keep H sc0).band p ↔ keptF keep H p = true := by
  have hst : ScOk keep [] H sc0 := by
    refine ⟨rfl, rfl, ⟨List.Pairwise.nil, (fun r hr => by cases hr)⟩, ?_, (fun e => by cases e), (fun _ r hr => by cases hr)⟩
    intro p hp
    have hn : H.filter (fun u => decide (u.x ≤ p)) = [] := by
      rw [List.filter_eq_nil_iff]
      intro u hu
      cases H with
      | nil => cases hu
      | cons v m =>
        have g1 := hp v m rfl
        have g2 : v.x ≤ u.x := by
          rcases List.mem_cons.1 hu with rfl | hm
          · exact Int.le_refl _
          · exact (List.pairwise_cons.1 hs).1 u hm
        simp
        omega
    constructor
    · rintro (a | a)
      · obtain ⟨r, hr, _⟩ := a; cases hr
      · cases a.1
    · intro a
      unfold keptF at a
      rw [List.nil_append, hn] at a
      simp [cov, hk] at a
  have hf := scan_go H [] sc0 (by simpa using hs) hst
  rw [List.nil_append] at hf
  have far : ∃ M, ∀ u ∈ H, u.x ≤ M := by
    clear hf hst h0 h1 hs
    induction H with
    | nil => exact ⟨0, fun u hu => by cases hu⟩
    | cons v m ih =>
      obtain ⟨M, hM⟩ := ih
      refine ⟨max M v.x, fun u hu => ?_⟩
      rcases List.mem_cons.1 hu with rfl | hm
      · omega
      · have := hM u hm
        omega
  obtain ⟨M, hM⟩ := far
  have hop : (scan keep H sc0).op = false := by
    cases e : (scan keep H sc0).op
    · rfl
    · exfalso
      have := (hf.set (max M (scan keep H sc0).start) fun u m e => by cases e).1 (Or.inr ⟨e, by omega⟩)
      rw [List.append_nil] at this
      unfold keptF at this
      rw [List.filter_eq_self.2 (fun u hu => by have := hM u hu; simp; omega), h0, h1] at this
      simp [hk] at this
  refine ⟨hf.ok, fun p => ?_⟩
  have := hf.set p fun u m e => by cases e
  rw [List.append_nil, hop] at this
  rw [← this]
  simp
/-- sorted sides of two lists: the sweep of a row finds the runs of the pixels to be kept. -/
theorem sweep_ok {keep : Bool → Bool → Bool} {A B : List Rc} {S : List Sd} (hk : keep false false = false) (hA : ∀ t ∈ A, 1 ≤ t.w) (hB : ∀ t ∈ B, 1 ≤ t.w) (hp : S.Perm (sidesF A 0 ++ sidesF B 1)) (hs : S.Pairwise fun a b => a.x ≤ b.x) (y : Int) :
    RunsOk (scan keep (S.filter (Sd.on y)) sc0).band ∧ ∀ p, runsHas (scan keep (S.filter (Sd.on y)) sc0).band p ↔ keep (setB A p y) (setB B p y) = true := by
  have key : ∀ p, cov 0 ((S.filter (Sd.on y)).filter fun s => decide (s.x ≤ p)) = cntB A p y ∧ cov 1 ((S.filter (Sd.on y)).filter fun s => decide (s.x ≤ p)) = cntB B p y := by
    intro p
    have hq := (hp.filter (Sd.on y)).filter fun s => decide (s.x ≤ p)
    rw [cov_perm 0 hq, cov_perm 1 hq, List.filter_append, List.filter_append, cov_append, cov_append, cov_sides 0 y p A hA, cov_sides 1 y p B hB, cov_other 0 1 (by decide), cov_other 1 0 (by decide)]
    exact ⟨by omega, by omega⟩
  have far : ∃ M, (∀ u ∈ S, u.x ≤ M) ∧ (∀ t ∈ A, t.x + t.w ≤ M) ∧ ∀ t ∈ B, t.x + t.w ≤ M := by
    have fs : ∀ l : List Sd, ∃ M, ∀ u ∈ l, u.x ≤ M := by
      intro l
      induction l with
      | nil => exact ⟨0, fun u hu => by cases hu⟩
      | cons v m ih =>
        obtain ⟨M, hM⟩ := ih
        refine ⟨max M v.x, fun u hu => ?_⟩
        rcases List.mem_cons.1 hu with rfl | hm
        · omega
        · have := hM u hm
          omega
    have fr : ∀ l : List Rc, ∃ M, ∀ u ∈ l, u.x + u.w ≤ M := by
      intro l
      induction l with
      | nil => exact ⟨0, fun u hu => by cases hu⟩
      | cons v m ih =>
        obtain ⟨M, hM⟩ := ih
        refine ⟨max M (v.x + v.w), fun u hu => ?_⟩
        rcases List.mem_cons.1 hu with rfl | hm
        · omega
        · have := hM u hm
          omega
    obtain ⟨M1, g1⟩ := fs S
    obtain ⟨M2, g2⟩ := fr A
    obtain ⟨M3, g3⟩ := fr B
    exact ⟨max M1 (max M2 M3), fun u hu => by have := g1 u hu; omega, fun u hu => by have := g2 u hu; omega, fun u hu => by have := g3 u hu; omega⟩
  obtain ⟨M, m1, m2, m3⟩ := far
  have hall : (S.filter (Sd.on y)).filter (fun s => decide (s.x ≤ M)) = S.filter (Sd.on y) := List.filter_eq_self.2 fun u hu => by simpa using m1 u (List.mem_filter.1 hu).1
  have zero : ∀ l : List Rc, (∀ t ∈ l, t.x + t.w ≤ M) → cntB l M y = 0 := by
    intro l
    induction l with
    | nil => intro _; rfl
    | cons t l ih =>
      intro h
      rw [cntB_cons, ih fun u hu => h u (List.mem_cons_of_mem _ hu)]
      have := h t (List.mem_cons_self ..)
      have hin : inB t M y = false := by unfold inB; simp; omega
      rw [hin]
      rfl
  have e0 := (key M).1
  have e1 := (key M).2
  rw [hall] at e0 e1
  rw [zero A m2] at e0
  rw [zero B m3] at e1
  obtain ⟨r1, r2⟩ := scan_ok hk (hs.filter _) e0 e1
  refine ⟨r1, fun p => ?_⟩
  rw [r2 p]
  unfold keptF
  rw [(key p).1, (key p).2]
  have ha := (cntB_pos A p y).2
  have hb := (cntB_pos B p y).2
  have ea : decide (0 < cntB A p y) = setB A p y := by
    cases e : setB A p y
    · rw [decide_eq_false_iff_not, ha, e]; simp
    · rw [decide_eq_true_iff, ha, e]
  have eb : decide (0 < cntB B p y) = setB B p y := by
    cases e : setB B p y
    · rw [decide_eq_false_iff_not, hb, e]; simp
    · rw [decide_eq_true_iff, hb, e]
  rw [ea, eb]
/-- strictly ascending lists of the same numbers are one. -/
theorem asc_uniq : ∀ {l m : List Int}, l.Pairwise (· < ·) → m.Pairwise (· < ·) → (∀ z, z ∈ l ↔ z ∈ m) → l = m
  | [], [], _, _, _ => rfl
  | [], b :: m, _, _, h => by have := (h b).2 (List.mem_cons_self ..); cases this
  | a :: l, [], _, _, h => by have := (h a).1 (List.mem_cons_self ..); cases this
  | a :: l, b :: m, hl, hm, h => by
    have hl' := List.pairwise_cons.1 hl
    have hm' := List.pairwise_cons.1 hm
    have e : a = b := by
      have h1 := (h a).1 (List.mem_cons_self ..)
      have h2 := (h b).2 (List.mem_cons_self ..)
      rcases List.mem_cons.1 h1 with e | h1
      · exact e
      · rcases List.mem_cons.1 h2 with e | h2
        · exact e.symm
        · have := hl'.1 b h2
          have := hm'.1 a h1
          omega
    subst e
    rw [asc_uniq hl'.2 hm'.2 fun z => ?_]
    constructor
    · intro hz
      have := hl'.1 z hz
      rcases List.mem_cons.1 ((h z).1 (List.mem_cons_of_mem _ hz)) with e | e
      · omega
      · exact e
    · intro hz
      have := hm'.1 z hz
      rcases List.mem_cons.1 ((h z).2 (List.mem_cons_of_mem _ hz)) with e | e
      · omega
      · exact e
end

section
open Go.RowKit
set_option maxHeartbeats 400000
set_option linter.unusedVariables false

/-! The program's own way of building a canonical list: plain facts. -/
theorem step_len (keep : Bool → Bool → Bool) (s : Sd) (l : Bool) (st : Sc) : (Sc.step keep s l st).band.length ≤ st.band.length + 1 := by
  cases l
  · exact Nat.le_succ _
  · show (if (!(keep (decide (0 < if s.n = 0 then st.c0 + s.s else st.c0)) (decide (0 < if s.n = 1 then st.c1 + s.s else st.c1))) && st.op) then st.band ++ [(st.start, s.x - st.start)] else st.band).length ≤ _
    generalize keep _ _ = r
    cases r <;> cases st.op <;> simp
theorem scan_len (keep : Bool → Bool → Bool) : ∀ (l : List Sd) (st : Sc), (scan keep l st).band.length ≤ st.band.length + l.length
  | [], st => Nat.le_refl _
  | s :: l, st => by
    have h1 := scan_len keep l (Sc.step keep s (lastOf s l) st)
    have h2 := step_len keep s (lastOf s l) st
    show (scan keep l (Sc.step keep s (lastOf s l) st)).band.length ≤ _
    simp only [List.length_cons]
    omega
theorem inside_cells (a b : List Rc) (how : Int) : CellX (insideF how a b) (sortedF (coordsX a ++ coordsX b)) ∧ CellY (insideF how a b) (sortedF (coordsY a ++ coordsY b)) ∧
    ∀ p q, insideF how a b p q = true → (sortedF (coordsY a ++ coordsY b)).getD 0 0 ≤ q ∧ q < (sortedF (coordsY a ++ coordsY b)).getD ((sortedF (coordsY a ++ coordsY b)).length - 1) 0 ∧
      (sortedF (coordsX a ++ coordsX b)).getD 0 0 ≤ p ∧ p < (sortedF (coordsX a ++ coordsX b)).getD ((sortedF (coordsX a ++ coordsX b)).length - 1) 0 := by
  have sx := sorted_asc (coordsX a ++ coordsX b)
  have sy := sorted_asc (coordsY a ++ coordsY b)
  have mxa : ∀ z ∈ coordsX a, z ∈ sortedF (coordsX a ++ coordsX b) := fun z hz => (sorted_mem _ _).2 (List.mem_append_left _ hz)
  have mxb : ∀ z ∈ coordsX b, z ∈ sortedF (coordsX a ++ coordsX b) := fun z hz => (sorted_mem _ _).2 (List.mem_append_right _ hz)
  have mya : ∀ z ∈ coordsY a, z ∈ sortedF (coordsY a ++ coordsY b) := fun z hz => (sorted_mem _ _).2 (List.mem_append_left _ hz)
  have myb : ∀ z ∈ coordsY b, z ∈ sortedF (coordsY a ++ coordsY b) := fun z hz => (sorted_mem _ _).2 (List.mem_append_right _ hz)
  have hm : ∀ (t : Rc) (p q : Int), (t ∈ a ∨ t ∈ b) → inR t p q → (sortedF (coordsY a ++ coordsY b)).getD 0 0 ≤ q ∧ q < (sortedF (coordsY a ++ coordsY b)).getD ((sortedF (coordsY a ++ coordsY b)).length - 1) 0 ∧
      (sortedF (coordsX a ++ coordsX b)).getD 0 0 ≤ p ∧ p < (sortedF (coordsX a ++ coordsX b)).getD ((sortedF (coordsX a ++ coordsX b)).length - 1) 0 := by
    intro t p q ht hin
    obtain ⟨k1, k2, k3, k4⟩ := hin
    have e : (t.x ∈ sortedF (coordsX a ++ coordsX b) ∧ t.x + t.w ∈ sortedF (coordsX a ++ coordsX b)) ∧ (t.y ∈ sortedF (coordsY a ++ coordsY b) ∧ t.y + t.h ∈ sortedF (coordsY a ++ coordsY b)) := by
      rcases ht with ht | ht
      · exact ⟨⟨mxa _ (coordsX_mem ht).1, mxa _ (coordsX_mem ht).2⟩, ⟨mya _ (coordsY_mem ht).1, mya _ (coordsY_mem ht).2⟩⟩
      · exact ⟨⟨mxb _ (coordsX_mem ht).1, mxb _ (coordsX_mem ht).2⟩, ⟨myb _ (coordsY_mem ht).1, myb _ (coordsY_mem ht).2⟩⟩
    have x1 := asc_ends sx e.1.1
    have x2 := asc_ends sx e.1.2
    have y1 := asc_ends sy e.2.1
    have y2 := asc_ends sy e.2.2
    omega
  refine ⟨?_, ?_, ?_⟩
  · intro i p q hi h1 h2
    unfold insideF
    rw [cell_x sx mxa i p q hi h1 h2, cell_x sx mxb i p q hi h1 h2]
  · intro i p q hi h1 h2
    unfold insideF
    rw [cell_y sy mya i p q hi h1 h2, cell_y sy myb i p q hi h1 h2]
  · intro p q h
    have : setB a p q = true ∨ setB b p q = true := by
      unfold insideF at h
      split at h
      · simpa using h
      · split at h
        · simp only [Bool.and_eq_true] at h
          exact Or.inl h.1
        · simp only [Bool.and_eq_true] at h
          exact Or.inl h.1
    rcases this with h | h
    · obtain ⟨t, ht, hin⟩ := (setB_iff _ _ _).1 h
      exact hm t p q (Or.inl ht) hin
    · obtain ⟨t, ht, hin⟩ := (setB_iff _ _ _).1 h
      exact hm t p q (Or.inr ht) hin
/-- the sweep of a row finds the runs that the specification finds. -/
theorem row_eq {keep : Bool → Bool → Bool} {A B : List Rc} {S : List Sd} {how : Int} (hk : keep false false = false) (hh : ∀ p q, keep (setB A p q) (setB B p q) = insideF how A B p q) (hA : ∀ t ∈ A, 1 ≤ t.w) (hB : ∀ t ∈ B, 1 ≤ t.w)
    (hp : S.Perm (sidesF A 0 ++ sidesF B 1)) (hs : S.Pairwise fun a b => a.x ≤ b.x) (y : Int) :
    (scan keep (S.filter (Sd.on y)) sc0).band = rowF (insideF how A B) (sortedF (coordsX A ++ coordsX B)) y := by
  obtain ⟨h1, h2⟩ := sweep_ok hk hA hB hp hs y
  obtain ⟨c1, c2, c3⟩ := inside_cells A B how
  obtain ⟨g1, g2⟩ := rowF_ok (sorted_asc (coordsX A ++ coordsX B)) c1 y
  refine runs_uniq h1 g1 fun p => ?_
  rw [h2 p, g2 p, hh p y]
  constructor
  · intro h
    have := c3 p y h
    exact ⟨this.2.2.1, this.2.2.2, h⟩
  · exact fun h => h.2.2
theorem bandStep_mem {bs : List Band} {R : List (Int × Int)} {y y' : Int} {b : Band} (h : b ∈ bandStep bs R y y') : b ∈ bs ∨ b = ⟨y, y' - y, R⟩ ∨ ∃ c ∈ bs, b.y = c.y ∧ b.y + b.h = y' := by
  unfold bandStep at h
  split at h
  · exact Or.inl h
  · split at h
    · rename_i c hc
      split at h
      · rcases List.mem_append.1 h with h | h
        · exact Or.inl ((List.dropLast_sublist _).subset h)
        · rw [List.mem_singleton] at h
          subst h
          exact Or.inr (Or.inr ⟨c, List.mem_of_getLast? hc, rfl, by simp only; omega⟩)
      · rcases List.mem_append.1 h with h | h
        · exact Or.inl h
        · rw [List.mem_singleton] at h
          exact Or.inr (Or.inl h)
    · rcases List.mem_append.1 h with h | h
      · exact Or.inl h
      · rw [List.mem_singleton] at h
        exact Or.inr (Or.inl h)
theorem bands_bd {T : Int → Int → Bool} {xs ys : List Int} {lo hi : Int} (h : ∀ k, k < ys.length → lo ≤ ys.getD k 0 ∧ ys.getD k 0 ≤ hi) : ∀ k, k < ys.length → ∀ b ∈ bandsF T xs ys k, (lo ≤ b.y ∧ b.y ≤ hi) ∧ lo ≤ b.y + b.h ∧ b.y + b.h ≤ hi
  | 0, _, b, hb => by cases hb
  | k + 1, hk, b, hb => by
    have ih := bands_bd (T := T) (xs := xs) h k (by omega)
    have h1 := h k (by omega)
    have h2 := h (k + 1) hk
    rcases bandStep_mem hb with hb | rfl | ⟨c, hc, e1, e2⟩
    · exact ih b hb
    · simp only
      omega
    · have := ih c hc
      omega
def lastF (bs : List Band) : Nat := (flat bs.dropLast).length
theorem lastF_nil : lastF [] = 0 := rfl
theorem lastF_snoc (pre : List Band) (b : Band) : lastF (pre ++ [b]) = (flat pre).length := by unfold lastF; rw [List.dropLast_concat]
theorem flat_snocB (pre : List Band) (b : Band) : flat (pre ++ [b]) = flat pre ++ b.flat := by rw [flat_append, flat_cons, flat_nil, List.append_nil]
theorem drop_lastF (pre : List Band) (b : Band) : (flat (pre ++ [b])).drop (lastF (pre ++ [b])) = b.flat := by
  rw [lastF_snoc, flat_snocB, List.drop_left]
theorem lastF_le (bs : List Band) : lastF bs ≤ (flat bs).length := by
  rcases List.eq_nil_or_concat bs with rfl | ⟨pre, b, rfl⟩
  · exact Nat.le_refl _
  · rw [List.concat_eq_append, lastF_snoc, flat_snocB, List.length_append]
    omega
/-- one more row of bands. -/
theorem step_ways {bs : List Band} {R : List (Int × Int)} {y y' : Int} (hok : ∀ b ∈ bs, b.ok) (hy : y < y') (hR : R ≠ []) (hRo : RunsOk R) :
    (joinedF ((flat bs).drop (lastF bs)) (Band.flat ⟨y, y' - y, R⟩) = true ∧ ∃ pre b, bs = pre ++ [b] ∧ b.y + b.h = y ∧ b.runs = R ∧ bandStep bs R y y' = pre ++ [⟨b.y, b.h + (y' - y), b.runs⟩]) ∨
    (joinedF ((flat bs).drop (lastF bs)) (Band.flat ⟨y, y' - y, R⟩) = false ∧ bandStep bs R y y' = bs ++ [⟨y, y' - y, R⟩]) := by
  have hb' : Band.ok ⟨y, y' - y, R⟩ := ⟨by simp only; omega, hR, hRo⟩
  rcases List.eq_nil_or_concat bs with rfl | ⟨pre, b, rfl⟩
  · right
    refine ⟨rfl, ?_⟩
    unfold bandStep
    cases R with
    | nil => exact absurd rfl hR
    | cons r R => rfl
  · rw [List.concat_eq_append] at *
    rw [drop_lastF]
    have hb := hok b (List.mem_append_right _ (List.mem_singleton.2 rfl))
    have hj := joined_flat hb hb'
    simp only at hj
    have e : bandStep (pre ++ [b]) R y y' = if b.y + b.h = y ∧ b.runs = R then pre ++ [⟨b.y, y' - b.y, b.runs⟩] else pre ++ [b] ++ [⟨y, y' - y, R⟩] := by
      unfold bandStep
      cases R with
      | nil => exact absurd rfl hR
      | cons r R => simp only [List.getLast?_append, List.getLast?_singleton, Option.some_or, List.dropLast_concat]
    by_cases h : b.y + b.h = y ∧ b.runs = R
    · left
      refine ⟨hj.2 h, pre, b, rfl, h.1, h.2, ?_⟩
      rw [e, if_pos h, show y' - b.y = b.h + (y' - y) by omega]
    · right
      refine ⟨?_, by rw [e, if_neg h]⟩
      cases ej : joinedF b.flat (Band.flat ⟨y, y' - y, R⟩)
      · rfl
      · exact absurd (hj.1 ej) h
def addH (d : Int) (t : Rc) : Rc := ⟨t.x, t.y, t.w, t.h + d⟩
def updR (p q : List Rc) (d : Int) (k : Nat) : List Rc := p ++ ((q.take k).map (addH d) ++ q.drop k)
theorem updR_zero (p q : List Rc) (d : Int) : updR p q d 0 = p ++ q := by simp [updR]
theorem updR_all (p : List Rc) (b : Band) (d : Int) : updR p b.flat d b.flat.length = p ++ Band.flat ⟨b.y, b.h + d, b.runs⟩ := by
  unfold updR
  rw [List.take_length, List.drop_length, List.append_nil]
  unfold Band.flat
  rw [List.map_map]
  rfl
theorem updR_len (p q : List Rc) (d : Int) (k : Nat) : (updR p q d k).length = p.length + q.length := by
  unfold updR
  simp
  omega
theorem cellsR_put (l1 l2 : List Rc) (t : Rc) (h : Int) : cellsR (l1 ++ ⟨t.x, t.y, t.w, h⟩ :: l2) = (cellsR (l1 ++ t :: l2)).set (l1.length * 4 + 3) (.int .i64 h) := by
  have hl : (cellsR l1).length = l1.length * 4 := by
    induction l1 with
    | nil => rfl
    | cons r l ih => rw [show cellsR (r :: l) = [.int .i64 r.x, .int .i64 r.y, .int .i64 r.w, .int .i64 r.h] ++ cellsR l from rfl, List.length_append, ih]; simp; omega
  rw [cellsR_append, cellsR_append, List.set_append_right _ _ (by omega), hl, show l1.length * 4 + 3 - l1.length * 4 = 3 by omega]
  rfl
theorem updR_succ (p q : List Rc) (d : Int) (k : Nat) (hk : k < q.length) : updR p q d k = (p ++ (q.take k).map (addH d)) ++ q.getD k Rc.zero :: q.drop (k + 1) ∧ updR p q d (k + 1) = (p ++ (q.take k).map (addH d)) ++ addH d (q.getD k Rc.zero) :: q.drop (k + 1) := by
  have e : q.getD k Rc.zero = q[k] := by rw [List.getD_eq_getElem?_getD, List.getElem?_eq_getElem hk]; rfl
  unfold updR
  rw [e]
  constructor
  · rw [List.append_assoc, List.drop_eq_getElem_cons hk]
  · rw [List.take_succ_eq_append_getElem hk, List.map_append, List.append_assoc, List.append_assoc]
    rfl
theorem updR_cells (p q : List Rc) (d : Int) (k : Nat) (hk : k < q.length) : cellsR (updR p q d (k + 1)) = (cellsR (updR p q d k)).set ((p.length + k) * 4 + 3) (.int .i64 ((q.getD k Rc.zero).h + d)) ∧ (cellsR (updR p q d k))[(p.length + k) * 4 + 3]? = some (.int .i64 (q.getD k Rc.zero).h) := by
  obtain ⟨e1, e2⟩ := updR_succ p q d k hk
  have hl : (p ++ (q.take k).map (addH d)).length = p.length + k := by simp; omega
  constructor
  · rw [e2, e1]
    have := cellsR_put (p ++ (q.take k).map (addH d)) (q.drop (k + 1)) (q.getD k Rc.zero) ((q.getD k Rc.zero).h + d)
    rw [hl] at this
    exact this
  · have hg : (updR p q d k).getD (p.length + k) Rc.zero = q.getD k Rc.zero := by
      rw [e1, List.getD_eq_getElem?_getD, List.getElem?_append_right (by omega), hl, Nat.sub_self]
      rfl
    have := (cellsR_at (updR p q d k) (p.length + k) (by rw [updR_len]; omega)).2.2.2
    rw [hg] at this
    exact this
theorem sd_of {A B : List Rc} {S : List Sd} (hp : S.Perm (sidesF A 0 ++ sidesF B 1)) (hA : ∀ t ∈ A, t.emp = false) (hB : ∀ t ∈ B, t.emp = false) : ∀ s ∈ S, (s.n = 0 ∨ s.n = 1) ∧ (-1048576 ≤ s.x ∧ s.x ≤ 1048576) ∧ (s.s = 1 ∨ s.s = -1) := by
  intro s hs
  have hm := hp.mem_iff.1 hs
  unfold sidesF at hm
  rcases List.mem_append.1 hm with h | h
  · obtain ⟨t, ht, h⟩ := List.mem_flatMap.1 h
    have := ne_ways t (hA t ht)
    simp only [List.mem_cons, List.not_mem_nil, or_false] at h
    rcases h with rfl | rfl <;> refine ⟨by simp, ?_, by simp⟩ <;> constructor <;> simp only <;> omega
  · obtain ⟨t, ht, h⟩ := List.mem_flatMap.1 h
    have := ne_ways t (hB t ht)
    simp only [List.mem_cons, List.not_mem_nil, or_false] at h
    rcases h with rfl | rfl <;> refine ⟨by simp, ?_, by simp⟩ <;> constructor <;> simp only <;> omega
theorem ys_bd {A B : List Rc} (hA : ∀ t ∈ A, t.emp = false) (hB : ∀ t ∈ B, t.emp = false) : ∀ k, k < (sortedF (coordsY A ++ coordsY B)).length → -1048576 ≤ (sortedF (coordsY A ++ coordsY B)).getD k 0 ∧ (sortedF (coordsY A ++ coordsY B)).getD k 0 ≤ 1048576 := by
  intro k hk
  have hm : (sortedF (coordsY A ++ coordsY B)).getD k 0 ∈ sortedF (coordsY A ++ coordsY B) := by
    rw [List.getD_eq_getElem?_getD, List.getElem?_eq_getElem hk]
    exact List.getElem_mem hk
  have hm2 := (sorted_mem _ _).1 hm
  generalize (sortedF (coordsY A ++ coordsY B)).getD k 0 = z at *
  clear hm
  unfold coordsY at hm2
  rcases List.mem_append.1 hm2 with h | h
  · obtain ⟨t, ht, h⟩ := List.mem_flatMap.1 h
    have := ne_ways t (hA t ht)
    simp only [List.mem_cons, List.not_mem_nil, or_false] at h
    rcases h with h | h <;> omega
  · obtain ⟨t, ht, h⟩ := List.mem_flatMap.1 h
    have := ne_ways t (hB t ht)
    simp only [List.mem_cons, List.not_mem_nil, or_false] at h
    rcases h with h | h <;> omega
theorem bandStep_len {bs : List Band} {R : List (Int × Int)} {y y' : Int} : (flat (bandStep bs R y y')).length ≤ (flat bs).length + R.length := by
  unfold bandStep
  split
  · simp
  · split
    · rename_i c hc
      split
      · rcases List.eq_nil_or_concat bs with rfl | ⟨pre, b, rfl⟩
        · simp at hc
        · rw [List.concat_eq_append] at *
          have : b = c := by simpa using hc
          subst this
          rw [List.dropLast_concat, flat_snocB, flat_snocB, List.length_append, List.length_append]
          unfold Band.flat
          simp
      · rw [flat_snocB, List.length_append]
        unfold Band.flat
        simp
    · rw [flat_snocB, List.length_append]
      unfold Band.flat
      simp
end

section
open Go.RowKit
set_option maxHeartbeats 400000
set_option linter.unusedVariables false

/-- the cells of sides. -/
def cellsS (l : List Sd) : List Value := l.flatMap fun s => [.int .i64 s.n, .int .i64 s.x, .int .i64 s.t, .int .i64 s.b, .int .i64 s.s]
theorem cellsS_append (a b : List Sd) : cellsS (a ++ b) = cellsS a ++ cellsS b := List.flatMap_append
theorem cellsS_len : ∀ l : List Sd, (cellsS l).length = l.length * 5
  | [] => rfl
  | s :: l => by
    have ih := cellsS_len l
    have e : cellsS (s :: l) = [.int .i64 s.n, .int .i64 s.x, .int .i64 s.t, .int .i64 s.b, .int .i64 s.s] ++ cellsS l := rfl
    rw [e, List.length_append, ih]
    simp
    omega
def Sd.zero : Sd := ⟨0, 0, 0, 0, 0⟩
theorem cellsS_at : ∀ (l : List Sd) (k : Nat), k < l.length →
    (cellsS l)[k * 5]? = some (.int .i64 (l.getD k Sd.zero).n) ∧ (cellsS l)[k * 5 + 1]? = some (.int .i64 (l.getD k Sd.zero).x) ∧ (cellsS l)[k * 5 + 2]? = some (.int .i64 (l.getD k Sd.zero).t) ∧ (cellsS l)[k * 5 + 3]? = some (.int .i64 (l.getD k Sd.zero).b) ∧ (cellsS l)[k * 5 + 4]? = some (.int .i64 (l.getD k Sd.zero).s)
  | [], k, h => by simp at h
  | s :: l, 0, _ => ⟨rfl, rfl, rfl, rfl, rfl⟩
  | s :: l, k + 1, h => by
    have ih := cellsS_at l k (by simpa using h)
    have e : cellsS (s :: l) = [.int .i64 s.n, .int .i64 s.x, .int .i64 s.t, .int .i64 s.b, .int .i64 s.s] ++ cellsS l := rfl
    rw [e]
    refine ⟨?_, ?_, ?_, ?_, ?_⟩
    · rw [List.getElem?_append_right (by simp; omega), show (k + 1) * 5 - [Value.int .i64 s.n, .int .i64 s.x, .int .i64 s.t, .int .i64 s.b, .int .i64 s.s].length = k * 5 by simp; omega]
      exact ih.1
    · rw [List.getElem?_append_right (by simp; omega), show (k + 1) * 5 + 1 - [Value.int .i64 s.n, .int .i64 s.x, .int .i64 s.t, .int .i64 s.b, .int .i64 s.s].length = k * 5 + 1 by simp; omega]
      exact ih.2.1
    · rw [List.getElem?_append_right (by simp; omega), show (k + 1) * 5 + 2 - [Value.int .i64 s.n, .int .i64 s.x, .int .i64 s.t, .int .i64 s.b, .int .i64 s.s].length = k * 5 + 2 by simp; omega]
      exact ih.2.2.1
    · rw [List.getElem?_append_right (by simp; omega), show (k + 1) * 5 + 3 - [Value.int .i64 s.n, .int .i64 s.x, .int .i64 s.t, .int .i64 s.b, .int .i64 s.s].length = k * 5 + 3 by simp; omega]
      exact ih.2.2.2.1
    · rw [List.getElem?_append_right (by simp; omega), show (k + 1) * 5 + 4 - [Value.int .i64 s.n, .int .i64 s.x, .int .i64 s.t, .int .i64 s.b, .int .i64 s.s].length = k * 5 + 4 by simp; omega]
      exact ih.2.2.2.2
/-- a list of sides that lies at a slice, in a block below B. -/
def argS (W : World) (B : Nat) (v : Value) (L : List Sd) : Prop :=
  ∃ ao cap, v = .slice ao L.length cap ∧ (0 < L.length → ∃ g o, ao = some ⟨g, o, none⟩ ∧ g < B ∧ ∀ k, k < L.length →
    W.cell? ⟨g, o + k * 5, none⟩ = some (.int .i64 (L.getD k Sd.zero).n) ∧ W.cell? ⟨g, o + k * 5 + 1, none⟩ = some (.int .i64 (L.getD k Sd.zero).x) ∧
    W.cell? ⟨g, o + k * 5 + 2, none⟩ = some (.int .i64 (L.getD k Sd.zero).t) ∧ W.cell? ⟨g, o + k * 5 + 3, none⟩ = some (.int .i64 (L.getD k Sd.zero).b) ∧ W.cell? ⟨g, o + k * 5 + 4, none⟩ = some (.int .i64 (L.getD k Sd.zero).s))
theorem argS.below {W W' : World} {B : Nat} {v : Value} {L : List Sd} (h : argS W B v L) (hb : Below B W W') : argS W' B v L := by
  obtain ⟨ao, cap, rfl, h⟩ := h
  refine ⟨ao, cap, rfl, fun hl => ?_⟩
  obtain ⟨g, o, rfl, hB, hc⟩ := h hl
  refine ⟨g, o, rfl, hB, fun k hk => ?_⟩
  obtain ⟨h0, h1, h2, h3, h4⟩ := hc k hk
  exact ⟨(hb.cell (p := ⟨g, o + k * 5, none⟩) hB).trans h0, (hb.cell (p := ⟨g, o + k * 5 + 1, none⟩) hB).trans h1, (hb.cell (p := ⟨g, o + k * 5 + 2, none⟩) hB).trans h2, (hb.cell (p := ⟨g, o + k * 5 + 3, none⟩) hB).trans h3, (hb.cell (p := ⟨g, o + k * 5 + 4, none⟩) hB).trans h4⟩
theorem argS.mono {W : World} {B B' : Nat} {v : Value} {L : List Sd} (h : argS W B v L) (hb : B ≤ B') : argS W B' v L := by
  obtain ⟨ao, cap, rfl, h⟩ := h
  refine ⟨ao, cap, rfl, fun hl => ?_⟩
  obtain ⟨g, o, rfl, hB, hc⟩ := h hl
  exact ⟨g, o, rfl, Nat.lt_of_lt_of_le hB hb, hc⟩
theorem row_formS {W : World} {base n : Nat} {t : TypeId} {size : Nat} {v : Value} {xs : List Value} (h : W.ownsRow base t size v n xs) : ∃ ao cap, v = .slice ao n cap ∧ (0 < n → ∃ g, ao = some ⟨g, 0, none⟩) ∧ n ≤ cap ∧ cap ≤ maxLen := by
  obtain ⟨_, hcase⟩ := h
  rcases hcase with ⟨rfl, rfl⟩ | ⟨g, cap, cur, rfl, hb, hg, hnc, hcm, hcs, htake⟩
  · exact ⟨none, 0, rfl, fun h => absurd h (Nat.lt_irrefl 0), Nat.le_refl _, Nat.zero_le _⟩
  · exact ⟨_, cap, rfl, fun _ => ⟨g, rfl⟩, hnc, hcm⟩
theorem capOk_own {W : World} {base n : Nat} {t : TypeId} {size : Nat} {v : Value} {xs : List Value} (h : W.ownsRow base t size v n xs) : capOk v := by
  obtain ⟨ao, cap, rfl, _, h1, h2⟩ := row_formS h
  intro ao' n' cap' e
  injection e with e1 e2 e3
  subst e2
  subst e3
  exact ⟨h1, h2⟩
theorem argS_own {W : World} {base : Nat} {v : Value} {l : List Sd} (h : W.ownsRow base 63 5 v l.length (cellsS l)) : argS W W.heap.size v l := by
  obtain ⟨ao, cap, rfl, hao, _⟩ := row_formS h
  refine ⟨ao, cap, rfl, fun hl => ?_⟩
  obtain ⟨g, rfl⟩ := hao hl
  refine ⟨g, 0, rfl, (h.lt g rfl).2, fun k hk => ?_⟩
  simp only [Nat.zero_add]
  obtain ⟨f0, f1, f2, f3, f4⟩ := cellsS_at l k hk
  exact ⟨(h.cellAt (k * 5) (by omega)).trans f0, (h.cellAt (k * 5 + 1) (by omega)).trans f1, (h.cellAt (k * 5 + 2) (by omega)).trans f2, (h.cellAt (k * 5 + 3) (by omega)).trans f3, (h.cellAt (k * 5 + 4) (by omega)).trans f4⟩
theorem info63 : (Try.prog.info? 63).map (fun i => (i.zero, i.size, i.bytes)) = some (some (.agg #[.int .i64 0, .int .i64 0, .int .i64 0, .int .i64 0, .int .i64 0]), 5, 40) := by kernel_rfl
theorem sides_take (L : List Rc) (m : Int) (k : Nat) (hk : k < L.length) : sidesF (L.take (k + 1)) m = sidesF (L.take k) m ++ [⟨m, (L.getD k Rc.zero).x, (L.getD k Rc.zero).y, (L.getD k Rc.zero).y + (L.getD k Rc.zero).h, 1⟩, ⟨m, (L.getD k Rc.zero).x + (L.getD k Rc.zero).w, (L.getD k Rc.zero).y, (L.getD k Rc.zero).y + (L.getD k Rc.zero).h, -1⟩] := by
  unfold sidesF
  rw [List.take_succ_eq_append_getElem hk, List.flatMap_append, List.getD_eq_getElem?_getD, List.getElem?_eq_getElem hk]
  simp
theorem sides_len : ∀ (L : List Rc) (m : Int), (sidesF L m).length = L.length * 2
  | [], _ => rfl
  | t :: L, m => by
    have ih := sides_len L m
    have e : sidesF (t :: L) m = [⟨m, t.x, t.y, t.y + t.h, 1⟩, ⟨m, t.x + t.w, t.y, t.y + t.h, -1⟩] ++ sidesF L m := rfl
    rw [e, List.length_append, ih]
    simp
    omega
set_option maxHeartbeats 2000000 in
set_option maxRecDepth 100000 in
theorem p67 (v : Value) (L : List Rc) (c : Int) (w : World) (h : argR w w.heap.size v L) (hne : ∀ t ∈ L, t.emp = false) (hl : L.length ≤ 1048576) :
    Calls Try.prog 67 #[v, .int .i64 c] w fun e w' => ∃ u, e = .returned u ∧ Below w.heap.size w w' ∧ w'.ownsRow w.heap.size 63 5 u (L.length * 2) (cellsS (sidesF L c)) := by
  obtain ⟨ao, cap, rfl, h⟩ := h
  obtain ⟨n, hn⟩ : ∃ n, L.length = n := ⟨_, rfl⟩
  rw [hn] at h hl
  have HN := Lib.hid hn
  rw [hn]
  clear hn
  have H := Lib.hid h
  have HE := Lib.hid hne
  clear h hne
  obtain ⟨i0, hi, hz0', hzs, hzb⟩ := info_parts info63
  go_enter Try.func67, Try.ntmps67
  go_wp2
  go_loopw [5, 11] (fun s i wr => ∃ k : Nat, k ≤ n ∧ i = .int .i64 (k : Int) ∧ wr.ownsRow w.heap.size 63 5 s (k * 2) (cellsS (sidesF (L.take k) c)) ∧ Below w.heap.size w wr) (fun _ i _ => (n - (intOf i).toNat))
  case atStart => exact ⟨0, by omega, rfl, World.ownsRow_nil _ _ _ _, Below.refl _ _⟩
  case round =>
    obtain ⟨k, hk, rfl, hown, hnx⟩ := hrel
    by_cases hlt : k < n
    · obtain ⟨g, o, rfl, hblk, hc⟩ := H.out (by omega)
      obtain ⟨f0, f1, f2, f3⟩ := hc k (by omega)
      replace f0 := (hnx.cell (p := ⟨g, o + k * 4, none⟩) hblk).trans f0
      replace f1 := (hnx.cell (p := ⟨g, o + k * 4 + 1, none⟩) hblk).trans f1
      replace f2 := (hnx.cell (p := ⟨g, o + k * 4 + 2, none⟩) hblk).trans f2
      replace f3 := (hnx.cell (p := ⟨g, o + k * 4 + 3, none⟩) hblk).trans f3
      have hh := sides_take L c k (by rw [HN.out]; omega)
      have hw := ne_ways _ (HE.out _ (getR_mem (L := L) (k := k) (by rw [HN.out]; exact hlt)))
      clear hc
      generalize L.getD k Rc.zero = S at *
      have kk : IntKind.i64.wrap ((k : Int) + 1) = (k : Int) + 1 := IntWalk.i64_in _ (by omega)
      have e3 : cellsS (sidesF (L.take (k + 1)) c) = cellsS (sidesF (L.take k) c) ++ [.int .i64 c, .int .i64 S.x, .int .i64 S.y, .int .i64 (S.y + S.h), .int .i64 1, .int .i64 c, .int .i64 (S.x + S.w), .int .i64 S.y, .int .i64 (S.y + S.h), .int .i64 (-1)] := by rw [hh, cellsS_append]; rfl
      have E3 := Lib.hid e3
      obtain ⟨_, _, _, _, b1, b2, b3, b4, b5, b6⟩ := hw
      clear hh e3
      go_wp2_with (at_builtin; refine wpList_append_own _ rfl _ _ 59 rfl w.heap.size 63 i0 (.agg #[.int .i64 0, .int .i64 0, .int .i64 0, .int .i64 0, .int .i64 0]) 5 40 Try.underlying59 hi hz0' hzs hzb rfl (by decide) _ _ _ rfl ((hown.alloc _).alloc _) ⟨wr.heap.size + 1, 0, none⟩ 2 2 [.int .i64 c, .int .i64 S.x, .int .i64 S.y, .int .i64 (S.y + S.h), .int .i64 1, .int .i64 c, .int .i64 (S.x + S.w), .int .i64 S.y, .int .i64 (S.y + S.h), .int .i64 (-1)] rfl rfl ?c1 ?c2 ?c3 ?c4 ?c5 ?_)
      case c1 =>
        intro j u hj
        match j, hj with
          | 0, hj => simp at hj; subst hj; simp [Addr.add]
          | 1, hj => simp at hj; subst hj; simp [Addr.add]
          | 2, hj => simp at hj; subst hj; simp [Addr.add]
          | 3, hj => simp at hj; subst hj; simp [Addr.add]
          | 4, hj => simp at hj; subst hj; simp [Addr.add]
          | 5, hj => simp at hj; subst hj; simp [Addr.add]
          | 6, hj => simp at hj; subst hj; simp [Addr.add]
          | 7, hj => simp at hj; subst hj; simp [Addr.add]
          | 8, hj => simp at hj; subst hj; simp [Addr.add]
          | 9, hj => simp at hj; subst hj; simp [Addr.add]
      case c2 => intro u hu; simp at hu; rcases hu with rfl | rfl | rfl | rfl | rfl | rfl | rfl | rfl | rfl | rfl <;> rfl
      case c3 => unfold maxLen; omega
      case c4 => omega
      case c5 => have := hnx.size; simp; omega
      intro v' w3 hown' hgrow _
      have hnx3 : Below w.heap.size w w3 := rel_append (w2 := wr.alloc (.cells #[.int .i64 S.x, .int .i64 S.y, .int .i64 S.w, .int .i64 S.h] 33)) hnx hown (by constructor <;> go_grown) hnx.size hgrow
      rw [← E3.out] at hown'
      clear hgrow hown hnx f0 f1 f2 f3
      go_wp2
      go_roundw
      case rel => exact ⟨k + 1, by omega, by simp, by rw [show (k + 1) * 2 = k * 2 + 2 by omega]; exact hown', hnx3⟩
      case measure => simp [intOf]; omega
    · obtain rfl : k = n := by omega
      have hend : L.take k = L := by rw [← HN.out]; exact List.take_length
      have HA := Lib.hid hend
      clear hend
      go_wp2
      go_ret
      exact ⟨_, rfl, hnx, by rw [HA.out] at hown; exact hown⟩
end

section
open Go.Shelf
def Try.lays189_ren : Go.Shelf.Ren := ⟨fun | 189 => 85 | 125 => 83 | 257 => 99 | 128 => 97 | 129 => 98 | 294 => 105 | 295 => 106 | 296 => 107 | 297 => 108 | 298 => 109 | 299 => 110 | 216 => 111 | 300 => 112 | 301 => 113 | 328 => 115 | 329 => 101 | 330 => 102 | 331 => 116 | 332 => 117 | 215 => 84 | 343 => 118 | n => n, fun | 28 => 54 | 3 => 3 | 46 => 75 | 0 => 0 | 51 => 89 | 53 => 91 | 4 => 4 | 183 => 82 | 182 => 81 | 131 => 86 | 5 => 5 | 9 => 9 | 218 => 93 | 222 => 97 | 228 => 104 | 229 => 71 | n => n, fun | n => n⟩
theorem Try.lays189 : Go.Proofs.Lays.n189 Try.prog Try.lays189_ren := {
  mixed := by kernel_rfl
  f125 := Try.func83.trans (congrArg some (by kernel_rfl))
  f128 := Try.func97.trans (congrArg some (by kernel_rfl))
  f129 := Try.func98.trans (congrArg some (by kernel_rfl))
  f189 := Try.func85.trans (congrArg some (by kernel_rfl))
  f215 := Try.func84.trans (congrArg some (by kernel_rfl))
  f216 := Try.func111.trans (congrArg some (by kernel_rfl))
  f257 := Try.func99.trans (congrArg some (by kernel_rfl))
  f294 := Try.func105.trans (congrArg some (by kernel_rfl))
  f295 := Try.func106.trans (congrArg some (by kernel_rfl))
  f296 := Try.func107.trans (congrArg some (by kernel_rfl))
  f297 := Try.func108.trans (congrArg some (by kernel_rfl))
  f298 := Try.func109.trans (congrArg some (by kernel_rfl))
  f299 := Try.func110.trans (congrArg some (by kernel_rfl))
  f300 := Try.func112.trans (congrArg some (by kernel_rfl))
  f301 := Try.func113.trans (congrArg some (by kernel_rfl))
  f328 := Try.func115.trans (congrArg some (by kernel_rfl))
  f329 := Try.func101.trans (congrArg some (by kernel_rfl))
  f330 := Try.func102.trans (congrArg some (by kernel_rfl))
  f331 := Try.func116.trans (congrArg some (by kernel_rfl))
  f332 := Try.func117.trans (congrArg some (by kernel_rfl))
  f343 := Try.func118.trans (congrArg some (by kernel_rfl))
  t0 := Try.underlying0
  a0 := Try.isAgg0
  z0 := Try.sizeOf0
  v0 := Try.zeroValue0
  t3 := Try.underlying3
  a3 := Try.isAgg3
  z3 := Try.sizeOf3
  v3 := Try.zeroValue3
  t4 := Try.underlying4
  a4 := Try.isAgg4
  z4 := Try.sizeOf4
  v4 := Try.zeroValue4
  t5 := Try.underlying5
  a5 := Try.isAgg5
  z5 := Try.sizeOf5
  v5 := Try.zeroValue5
  t9 := Try.underlying9
  a9 := Try.isAgg9
  z9 := Try.sizeOf9
  v9 := Try.zeroValue9
  t28 := Try.underlying54
  a28 := Try.isAgg54
  z28 := Try.sizeOf54
  v28 := Try.zeroValue54
  t46 := Try.underlying75
  a46 := Try.isAgg75
  z46 := Try.sizeOf75
  v46 := Try.zeroValue75
  t51 := Try.underlying89
  a51 := Try.isAgg89
  z51 := Try.sizeOf89
  v51 := Try.zeroValue89
  t53 := Try.underlying91
  a53 := Try.isAgg91
  z53 := Try.sizeOf91
  v53 := Try.zeroValue91
  t131 := Try.underlying86
  a131 := Try.isAgg86
  z131 := Try.sizeOf86
  v131 := Try.zeroValue86
  t182 := Try.underlying81
  a182 := Try.isAgg81
  z182 := Try.sizeOf81
  v182 := Try.zeroValue81
  t183 := Try.underlying82
  a183 := Try.isAgg82
  z183 := Try.sizeOf82
  v183 := Try.zeroValue82
  t218 := Try.underlying93
  a218 := Try.isAgg93
  z218 := Try.sizeOf93
  v218 := Try.zeroValue93
  t222 := Try.underlying97
  a222 := Try.isAgg97
  z222 := Try.sizeOf97
  v222 := Try.zeroValue97
  t228 := Try.underlying104
  a228 := Try.isAgg104
  z228 := Try.sizeOf104
  v228 := Try.zeroValue104
  t229 := Try.underlying71
  a229 := Try.isAgg71
  z229 := Try.sizeOf71
  v229 := Try.zeroValue71 }
open Go.Sort Go.RowKit in
theorem Try.slices_Sort_int (blk off cap : Nat) (zs : List Int) (w : World) (hH : Holds (Value.int .i64) w blk off zs.toArray) (hblk : blk < w.heap.size) (hsz : zs.length < 4611686018427387904) :
    Calls Try.prog 85 #[.slice (some ⟨blk, off, none⟩) zs.length cap] w fun e w' =>
      e = .returned (.tuple #[]) ∧ ∃ n os, w' = grow (putRow (Value.int .i64) (Sort.ahead w n) blk off (zs.mergeSort fun x y => decide (x ≤ y)).toArray) os := Any.slices_Sort_int Try.lays189 blk off cap zs w hH hblk hsz
def Try.laysNm220_ren : Go.Shelf.Ren := ⟨fun | 20 => 86 | n => n, fun | 22 => 54 | 3 => 3 | 4 => 4 | 0 => 0 | n => n, fun | n => n⟩
theorem Try.laysNm220 : Go.Proofs.Lays2.n20 Try.prog Try.laysNm220_ren := {
  mixed := by kernel_rfl
  f20 := Try.func86.trans (congrArg some (by kernel_rfl))
  t0 := Try.underlying0
  a0 := Try.isAgg0
  z0 := Try.sizeOf0
  v0 := Try.zeroValue0
  t3 := Try.underlying3
  a3 := Try.isAgg3
  z3 := Try.sizeOf3
  v3 := Try.zeroValue3
  t4 := Try.underlying4
  a4 := Try.isAgg4
  z4 := Try.sizeOf4
  v4 := Try.zeroValue4
  t22 := Try.underlying54
  a22 := Try.isAgg54
  z22 := Try.sizeOf54
  v22 := Try.zeroValue54
  i3 := by kernel_rfl }
open Go.RowKit Go.Lib Go.Sort in
theorem Try.slices_Compact_int_arr (blk off cap : Nat) (d : Array Int) (w : World) (hH : Holds encI w blk off d) (hsz : d.size ≤ 9223372036854775807) (hcap : d.size ≤ cap) :
    Calls Try.prog 86 #[.slice (some ⟨blk, off, none⟩) d.size cap] w fun e w' => e = .returned (.slice (some ⟨blk, off, none⟩) (compactUpTo d d.size).length cap) ∧ ∃ q, w' = putRow encI (Sort.ahead w q) blk off (compactUpTo d d.size ++ List.replicate (d.size - (compactUpTo d d.size).length) 0).toArray := Any.slices_Compact_int_arr Try.laysNm220 blk off cap d w hH hsz hcap
open Go.RowKit Go.Lib Go.Sort in
theorem Try.slices_Compact_int (blk off cap : Nat) (zs : List Int) (w : World) (hH : Holds (Value.int .i64) w blk off zs.toArray) (hsz : zs.length ≤ 9223372036854775807) (hcap : zs.length ≤ cap) :
    Calls Try.prog 86 #[.slice (some ⟨blk, off, none⟩) zs.length cap] w fun e w' => e = .returned (.slice (some ⟨blk, off, none⟩) (Lib.compact zs).length cap) ∧ ∃ q, w' = putRow (Value.int .i64) (Sort.ahead w q) blk off (Lib.compact zs ++ List.replicate (zs.length - (Lib.compact zs).length) 0).toArray := Any.slices_Compact_int Try.laysNm220 blk off cap zs w hH hsz hcap
open Go.RowKit Go.Lib Go.Sort in
theorem Try.slices_Compact_int_empty (a : Option Addr) (cap : Nat) (w : World) :
    Calls Try.prog 86 #[.slice a 0 cap] w fun e w' => e = .returned (.slice a 0 cap) ∧ w' = w := Any.slices_Compact_int_empty Try.laysNm220 a cap w
open Go.RowKit Go.Sort in
theorem Try.slices_Sort_int_none (p : Option Addr) (cap : Nat) (w : World) :
    Calls Try.prog 85 #[.slice p 0 cap] w fun e w' => e = .returned (.tuple #[]) ∧ w' = w := Any.slices_Sort_int_none Try.lays189 p cap w
def Try.sortS_ren : Go.Shelf.Ren := ⟨fun | 6 => 68 | 15 => 83 | 14 => 82 | 28 => 97 | 29 => 98 | 20 => 89 | 21 => 90 | 22 => 91 | 23 => 92 | 24 => 93 | 25 => 94 | 26 => 95 | 27 => 96 | 46 => 100 | 47 => 101 | 48 => 102 | 49 => 103 | 50 => 104 | 57 => 114 | n => n, fun | 22 => 59 | 24 => 63 | 25 => 64 | 3 => 3 | 39 => 75 | 0 => 0 | 53 => 89 | 55 => 91 | 4 => 4 | 46 => 82 | 45 => 81 | 50 => 86 | 5 => 5 | 9 => 9 | 66 => 93 | 70 => 97 | 76 => 104 | 77 => 71 | n => n, fun | n => n⟩
theorem Try.sortS : Go.Proofs.SlLaysF0.n6 Try.prog Try.sortS_ren := {
  mixed := by kernel_rfl
  f6 := ⟨Try.f68.name, by decide, Try.func68.trans (congrArg some (by kernel_rfl))⟩
  f14 := ⟨Try.f82.name, by decide, Try.func82.trans (congrArg some (by kernel_rfl))⟩
  f15 := Try.func83.trans (congrArg some (by kernel_rfl))
  f20 := ⟨Try.f89.name, by decide, Try.func89.trans (congrArg some (by kernel_rfl))⟩
  f21 := ⟨Try.f90.name, by decide, Try.func90.trans (congrArg some (by kernel_rfl))⟩
  f22 := ⟨Try.f91.name, by decide, Try.func91.trans (congrArg some (by kernel_rfl))⟩
  f23 := ⟨Try.f92.name, by decide, Try.func92.trans (congrArg some (by kernel_rfl))⟩
  f24 := ⟨Try.f93.name, by decide, Try.func93.trans (congrArg some (by kernel_rfl))⟩
  f25 := ⟨Try.f94.name, by decide, Try.func94.trans (congrArg some (by kernel_rfl))⟩
  f26 := ⟨Try.f95.name, by decide, Try.func95.trans (congrArg some (by kernel_rfl))⟩
  f27 := ⟨Try.f96.name, by decide, Try.func96.trans (congrArg some (by kernel_rfl))⟩
  f28 := Try.func97.trans (congrArg some (by kernel_rfl))
  f29 := Try.func98.trans (congrArg some (by kernel_rfl))
  f46 := ⟨Try.f100.name, by decide, Try.func100.trans (congrArg some (by kernel_rfl))⟩
  f47 := Try.func101.trans (congrArg some (by kernel_rfl))
  f48 := Try.func102.trans (congrArg some (by kernel_rfl))
  f49 := ⟨Try.f103.name, by decide, Try.func103.trans (congrArg some (by kernel_rfl))⟩
  f50 := ⟨Try.f104.name, by decide, Try.func104.trans (congrArg some (by kernel_rfl))⟩
  f57 := ⟨Try.f114.name, by decide, Try.func114.trans (congrArg some (by kernel_rfl))⟩
  t0 := Try.underlying0
  a0 := Try.isAgg0
  z0 := Try.sizeOf0
  v0 := Try.zeroValue0
  t3 := Try.underlying3
  a3 := Try.isAgg3
  z3 := Try.sizeOf3
  v3 := Try.zeroValue3
  t4 := Try.underlying4
  a4 := Try.isAgg4
  z4 := Try.sizeOf4
  v4 := Try.zeroValue4
  t5 := Try.underlying5
  a5 := Try.isAgg5
  z5 := Try.sizeOf5
  v5 := Try.zeroValue5
  t9 := Try.underlying9
  a9 := Try.isAgg9
  z9 := Try.sizeOf9
  v9 := Try.zeroValue9
  t22 := Try.underlying59
  a22 := Try.isAgg59
  z22 := Try.sizeOf59
  v22 := Try.zeroValue59
  t25 := Try.underlying64
  a25 := Try.isAgg64
  z25 := Try.sizeOf64
  v25 := Try.zeroValue64
  t39 := Try.underlying75
  a39 := Try.isAgg75
  z39 := Try.sizeOf75
  v39 := Try.zeroValue75
  t45 := Try.underlying81
  a45 := Try.isAgg81
  z45 := Try.sizeOf81
  v45 := Try.zeroValue81
  t46 := Try.underlying82
  a46 := Try.isAgg82
  z46 := Try.sizeOf82
  v46 := Try.zeroValue82
  t50 := Try.underlying86
  a50 := Try.isAgg86
  z50 := Try.sizeOf86
  v50 := Try.zeroValue86
  t53 := Try.underlying89
  a53 := Try.isAgg89
  z53 := Try.sizeOf89
  v53 := Try.zeroValue89
  t55 := Try.underlying91
  a55 := Try.isAgg91
  z55 := Try.sizeOf91
  v55 := Try.zeroValue91
  t66 := Try.underlying93
  a66 := Try.isAgg93
  z66 := Try.sizeOf93
  v66 := Try.zeroValue93
  t70 := Try.underlying97
  a70 := Try.isAgg97
  z70 := Try.sizeOf97
  v70 := Try.zeroValue97
  t76 := Try.underlying104
  a76 := Try.isAgg104
  z76 := Try.sizeOf104
  v76 := Try.zeroValue104
  t77 := Try.underlying71
  a77 := Try.isAgg71
  z77 := Try.sizeOf71
  v77 := Try.zeroValue71 }
def Try.contR_ren : Go.Shelf.Ren := ⟨fun | 8 => 48 | 6 => 73 | n => n, fun | 22 => 22 | 23 => 33 | 25 => 44 | 4 => 4 | 3 => 3 | 0 => 0 | n => n, fun | n => n⟩
theorem Try.contR : Go.Proofs.SlLaysH0.n8 Try.prog Try.contR_ren := {
  mixed := by kernel_rfl
  f6 := ⟨Try.f73.name, by decide, Try.func73.trans (congrArg some (by kernel_rfl))⟩
  f8 := ⟨Try.f48.name, by decide, Try.func48.trans (congrArg some (by kernel_rfl))⟩
  t0 := Try.underlying0
  a0 := Try.isAgg0
  z0 := Try.sizeOf0
  v0 := Try.zeroValue0
  t3 := Try.underlying3
  a3 := Try.isAgg3
  z3 := Try.sizeOf3
  v3 := Try.zeroValue3
  t4 := Try.underlying4
  a4 := Try.isAgg4
  z4 := Try.sizeOf4
  v4 := Try.zeroValue4
  t22 := Try.underlying22
  a22 := Try.isAgg22
  z22 := Try.sizeOf22
  v22 := Try.zeroValue22
  t25 := Try.underlying44
  a25 := Try.isAgg44
  z25 := Try.sizeOf44
  v25 := Try.zeroValue44 }
end

section
open Go.RowKit
set_option maxHeartbeats 400000
set_option linter.unusedVariables false

open Go.Shelf Go.Lib Go.Sort
/-! A row of one's own, sorted by the library. -/
theorem heap_rowV {w : World} {g n : Nat} {os : Array Obj} {cur : Array Value} {e : TypeId} {fr : Nat × Nat} (d : Array Value) (hb : w.heap[g]? = some (.cells cur e fr)) :
    (grow (putRow id (Sort.ahead w n) g 0 d) os).heap[g]? = some (.cells (putCells id 0 d cur) e fr) := by
  have hg : g < w.heap.size := (Array.getElem?_eq_some_iff.1 hb).1
  rw [heap_grow_old _ _ (by simpa using hg)]
  simp [putRow, mapBlock, Sort.ahead, Array.getElem?_modify, hb, onCells]
theorem grownBy_rowV {w : World} {g n : Nat} {os : Array Obj} (d : Array Value) : w.grownBy (grow (putRow id (Sort.ahead w n) g 0 d) os) (some g) := by
  refine ⟨rfl, rfl, rfl, by simp, fun k hk hne => ?_⟩
  rw [heap_grow_old _ _ (by simpa using hk)]
  have : g ≠ k := fun e => hne (by rw [e])
  simp [putRow, mapBlock, Sort.ahead, Array.getElem?_modify, this]
theorem take_putCellsV (cur : Array Value) (ts : List Value) (h : ts.length ≤ cur.size) : (putCells id 0 ts.toArray cur).toList.take ts.length = ts := by
  apply List.ext_getElem?
  intro j
  by_cases hj : j < ts.length
  · rw [List.getElem?_take_of_lt hj, Array.getElem?_toList]
    simp [putCells, hj, show j < cur.size by omega]
  · rw [List.getElem?_take_eq_none (by omega), List.getElem?_eq_none (by omega)]
theorem ownsRow_rowV {w : World} {base g cap n m size : Nat} {e : TypeId} {os : Array Obj} {cur : Array Value} {ts : List Value} (hl : ts.length = m * size) (hbase : base ≤ g) (hb : w.heap[g]? = some (.cells cur e (0, 0)))
    (h1 : m ≤ cap) (h2 : cap ≤ maxLen) (h3 : cur.size = cap * size) :
    (grow (putRow id (Sort.ahead w n) g 0 ts.toArray) os).ownsRow base e size (.slice (some ⟨g, 0, none⟩) m cap) m ts :=
  ⟨hl, .inr ⟨g, cap, _, rfl, hbase, heap_rowV _ hb, h1, h2, by simp [putCells, h3], by rw [← hl]; exact take_putCellsV cur ts (by rw [hl, h3]; exact Nat.mul_le_mul_right _ h1)⟩⟩
def encS (s : Sd) : List Value := [.int .i64 s.n, .int .i64 s.x, .int .i64 s.t, .int .i64 s.b, .int .i64 s.s]
instance : Inhabited Sd := ⟨Sd.zero⟩
theorem getS (d : Array Sd) (k : Nat) (hk : k < d.size) : d[k]! = d.toList.getD k Sd.zero := by
  rw [getElem!_pos d k hk, List.getD_eq_getElem?_getD, List.getElem?_eq_getElem (by simpa using hk)]
  simp
theorem flatS (d : Array Sd) : (flatK encS 5 d).toList = cellsS d.toList := by
  apply List.ext_getElem?
  intro j
  by_cases hj : j < d.size * 5
  · obtain ⟨k, r, rfl, hr⟩ : ∃ k r, j = k * 5 + r ∧ r < 5 := ⟨j / 5, j % 5, by omega, by omega⟩
    have hk : k < d.size := by omega
    obtain ⟨f0, f1, f2, f3, f4⟩ := cellsS_at d.toList k (by simpa using hk)
    have e : (flatK encS 5 d).toList[k * 5 + r]? = some ((flatK encS 5 d)[k * 5 + r]!) := by
      rw [Array.getElem?_toList, getElem!_pos _ _ (by simpa using hj), Array.getElem?_eq_getElem]
    rw [e, get_flatK _ _ _ _ hj, show (k * 5 + r) / 5 = k by omega, show (k * 5 + r) % 5 = r by omega, getS d k hk]
    rcases (show r = 0 ∨ r = 1 ∨ r = 2 ∨ r = 3 ∨ r = 4 by omega) with rfl | rfl | rfl | rfl | rfl
    · exact f0.symm
    · exact f1.symm
    · exact f2.symm
    · exact f3.symm
    · exact f4.symm
  · rw [List.getElem?_eq_none (by simp; omega), List.getElem?_eq_none (by rw [cellsS_len]; simp; omega)]
def cmpI (a b : Int) : Int := if a < b then -1 else if b < a then 1 else 0
def cfS (x y : Sd) : Int := cmpI x.x y.x
theorem ltS (x y : Sd) : ltOf cfS x y = decide (x.x < y.x) := by
  unfold ltOf cfS cmpI
  by_cases h1 : x.x < y.x
  · simp [h1]
  · by_cases h2 : y.x < x.x <;> simp [h1, h2]
theorem swoS : SWO (ltOf cfS) where
  irrefl x := by rw [ltS]; simp
  trans x y z h1 h2 := by rw [ltS] at *; simp at *; omega
  ntrans x y z h1 h2 := by rw [ltS] at *; simp at *; omega
set_option maxHeartbeats 1000000 in
theorem p69 (x y : Sd) (W : World) : Calls Try.prog 69 #[.agg #[.int .i64 x.n, .int .i64 x.x, .int .i64 x.t, .int .i64 x.b, .int .i64 x.s], .agg #[.int .i64 y.n, .int .i64 y.x, .int .i64 y.t, .int .i64 y.b, .int .i64 y.s]] W fun e w' => e = .returned (.int .i64 (cfS x y)) ∧ ∃ q os', w' = grow (W.drewN q) os' := by
  unfold cfS cmpI
  rcases (show x.x < y.x ∨ (¬ x.x < y.x ∧ y.x < x.x) ∨ (¬ x.x < y.x ∧ ¬ y.x < x.x) by omega) with h1 | ⟨h1, h2⟩ | ⟨h1, h2⟩
  · rw [if_pos h1]
    go_enter Try.func69, Try.ntmps69
    go_wp2
    go_ret
    exact ⟨rfl, 0, _, by rw [alloc_eq_grow, alloc_eq_grow, grow_grow]; rfl⟩
  · rw [if_neg h1, if_pos h2]
    go_enter Try.func69, Try.ntmps69
    go_wp2
    go_ret
    exact ⟨rfl, 0, _, by rw [alloc_eq_grow, alloc_eq_grow, grow_grow]; rfl⟩
  · rw [if_neg h1, if_neg h2]
    go_enter Try.func69, Try.ntmps69
    go_wp2
    go_ret
    exact ⟨rfl, 0, _, by rw [alloc_eq_grow, alloc_eq_grow, grow_grow]; rfl⟩
theorem p68 (v : Value) (l : List Sd) (base : Nat) (w : World) (h : w.ownsRow base 63 5 v l.length (cellsS l)) (hl : l.length ≤ 1048576) :
    Calls Try.prog 68 #[v, .func (.func 69) #[] #[]] w fun e w' => e = .returned (.tuple #[]) ∧ ∃ l' : List Sd, l'.Perm l ∧ l'.Pairwise (fun a b => a.x ≤ b.x) ∧ w'.ownsRow base 63 5 v l.length (cellsS l') ∧ w.grownBy w' v.ownBlock := by
  have eg : ∀ args w, (callFunc 69 args).run Try.prog w = .ok (.enter 69 args) w := enters_of Try.func69 (by kernel_rfl) rfl
  have hown := h
  obtain ⟨hlen, hcase⟩ := h
  rcases hcase with ⟨rfl, h0⟩ | ⟨g, cap, cur, rfl, hbase, hb, h1, h2, h3, h4⟩
  · have hc := AnyF.slices_SortFunc_none (P := Try.prog) (ρ := Try.sortS_ren) { Try.sortS with } none 0 (.func (.func 69) #[] #[]) w
    change Calls Try.prog 68 _ _ _ at hc
    refine hc.mono ?_
    rintro e w' ⟨rfl, rfl⟩
    obtain rfl : l = [] := List.eq_nil_of_length_eq_zero h0
    exact ⟨rfl, [], List.Perm.refl _, List.Pairwise.nil, hown, ⟨rfl, rfl, rfl, Nat.le_refl _, fun k _ _ => rfl⟩⟩
  · have hg : g < w.heap.size := (Array.getElem?_eq_some_iff.1 hb).1
    have hH : HoldsK encS 5 w g 0 l.toArray := by
      intro j hj
      rw [size_flatK] at hj
      have hj' : j < (cellsS l).length := by rw [cellsS_len]; simpa using hj
      refine ⟨?_, by simp [World.frozen?, hb]⟩
      have e1 := hown.cellAt j (by simpa using hj)
      rw [Nat.zero_add, e1]
      have e2 := flatS l.toArray
      rw [← e2]
      simp only [id]
      rw [Array.getElem?_toList, getElem!_pos _ _ (by simpa using hj), Array.getElem?_eq_getElem]
    have hc := AnyQ.slices_SortFunc Try.sortS 5 Try.isAgg63 Try.sizeOf63 encS (fun _ => rfl) (fun x v hv => by simp [encS] at hv; rcases hv with rfl | rfl | rfl | rfl | rfl <;> rfl) cfS swoS 69 #[] g 0 cap l.toArray w eg (fun _ _ _ _ x y => p69 x y _) hH hg (by simp; omega)
    change Calls Try.prog 68 _ _ _ at hc
    simp only [List.size_toArray] at hc
    refine hc.mono ?_
    rintro e w' ⟨rfl, d', n, os, hp, hs, rfl⟩
    obtain ⟨p1, p2, p3⟩ := hp
    have hsz : d'.size = l.length := by simpa using p1
    have hperm : d'.toList.Perm l := by
      have e1 : d'.extract 0 l.length = d' := by rw [← hsz, Array.extract_size]
      have e2 : l.toArray.extract 0 l.length = l.toArray := by
        simp
      rw [e1, e2] at p3
      simpa using p3
    refine ⟨rfl, d'.toList, hperm, ?_, ?_, ?_⟩
    · rw [List.pairwise_iff_getElem]
      intro i j hi hj hij
      have := hs i j (Nat.zero_le _) hij (by rw [← hsz]; simpa using hj)
      rw [ltS, getElem!_pos d' i (by simpa using hi), getElem!_pos d' j (by simpa using hj)] at this
      simp only [decide_eq_false_iff_not] at this
      simp only [Array.getElem_toList]
      omega
    · have e1 : flatK encS 5 d' = (cellsS d'.toList).toArray := by rw [← flatS]
      unfold sortWorldK putRowK
      rw [e1]
      exact ownsRow_rowV (by rw [cellsS_len]; simp [hsz]) hbase hb h1 h2 h3
    · unfold sortWorldK putRowK
      exact grownBy_rowV _
end

section
open Go.RowKit
set_option maxHeartbeats 400000
set_option linter.unusedVariables false

open Go.Shelf Go.Lib Go.Sort
theorem compact_go (d : Array Int) (hs : ∀ i j, i ≤ j → j < d.size → d[i]! ≤ d[j]!) : ∀ m : Nat, m ≤ d.size →
    (compactUpTo d m).Pairwise (· < ·) ∧ (∀ z ∈ compactUpTo d m, ∃ i, i < m ∧ z = d[i]!) ∧ ∀ i, i < m → d[i]! ∈ compactUpTo d m
  | 0, _ => ⟨by simp [compactUpTo], by simp [compactUpTo], fun i h => absurd h (Nat.not_lt_zero _)⟩
  | m + 1, hm => by
    obtain ⟨h1, h2, h3⟩ := compact_go d hs m (by omega)
    rw [compactUpTo_succ]
    by_cases hk : m = 0 ∨ d[m]! ≠ d[m - 1]!
    · have ek : keeps d m = true := by
        rcases hk with rfl | hk
        · simp [keeps]
        · exact keeps_pos hk
      rw [ek]
      simp only [if_true]
      refine ⟨?_, ?_, ?_⟩
      · rw [List.pairwise_append]
        refine ⟨h1, List.pairwise_singleton _ _, ?_⟩
        intro a ha b hb
        rw [List.mem_singleton] at hb
        subst hb
        obtain ⟨i, hi, rfl⟩ := h2 a ha
        rcases hk with rfl | hk
        · omega
        · have g1 := hs i (m - 1) (by omega) (by omega)
          have g2 := hs (m - 1) m (by omega) (by omega)
          omega
      · intro z hz
        rcases List.mem_append.1 hz with hz | hz
        · obtain ⟨i, hi, e⟩ := h2 z hz
          exact ⟨i, by omega, e⟩
        · rw [List.mem_singleton] at hz
          exact ⟨m, by omega, hz⟩
      · intro i hi
        by_cases hl : i < m
        · exact List.mem_append_left _ (h3 i hl)
        · obtain rfl : i = m := by omega
          exact List.mem_append_right _ (List.mem_singleton.2 rfl)
    · have hm0 : m ≠ 0 := fun e => hk (Or.inl e)
      have heq : d[m]! = d[m - 1]! := by
        by_cases h : d[m]! = d[m - 1]!
        · exact h
        · exact absurd (Or.inr h) hk
      rw [keeps_neg (by omega) heq]
      simp only [Bool.false_eq_true, if_false, List.append_nil]
      refine ⟨h1, fun z hz => ?_, fun i hi => ?_⟩
      · obtain ⟨i, hi, e⟩ := h2 z hz
        exact ⟨i, by omega, e⟩
      · by_cases hl : i < m
        · exact h3 i hl
        · obtain rfl : i = m := by omega
          rw [heq]
          exact h3 (i - 1) (by omega)
def mergeI (zs : List Int) : List Int := zs.mergeSort fun x y => decide (x ≤ y)
theorem mergeI_len (zs : List Int) : (mergeI zs).length = zs.length := List.length_mergeSort _
theorem mergeI_mem (zs : List Int) (z : Int) : z ∈ mergeI zs ↔ z ∈ zs := List.mem_mergeSort
theorem mergeI_sorted (zs : List Int) : (mergeI zs).Pairwise (· ≤ ·) := by
  have := List.pairwise_mergeSort (le := fun x y : Int => decide (x ≤ y)) (by intro a b c; simp; omega) (by intro a b; simp; omega) zs
  exact this.imp fun h => by simpa using h
theorem compact_sorted {zs : List Int} (h : zs.Pairwise (· ≤ ·)) : (Lib.compact zs).Pairwise (· < ·) ∧ ∀ z, z ∈ Lib.compact zs ↔ z ∈ zs := by
  have hs : ∀ i j, i ≤ j → j < zs.toArray.size → zs.toArray[i]! ≤ zs.toArray[j]! := by
    intro i j hij hj
    have hj' : j < zs.length := by simpa using hj
    rw [getElem!_pos zs.toArray i (by simpa using (by omega : i < zs.length)), getElem!_pos zs.toArray j hj]
    simp only [List.getElem_toArray]
    by_cases e : i = j
    · subst e; exact Int.le_refl _
    · exact List.pairwise_iff_getElem.1 h i j (by omega) hj' (by omega)
  obtain ⟨h1, h2, h3⟩ := compact_go zs.toArray hs zs.length (by simp)
  refine ⟨h1, fun z => ⟨fun hz => ?_, fun hz => ?_⟩⟩
  · obtain ⟨i, hi, rfl⟩ := h2 z hz
    rw [getElem!_pos zs.toArray i (by simpa using hi)]
    simp
  · obtain ⟨i, hi, rfl⟩ := List.getElem_of_mem hz
    have := h3 i hi
    rw [getElem!_pos zs.toArray i (by simpa using hi), List.getElem_toArray] at this
    exact this
/-- the rows in which a side begins or ends. -/
def rowsF (l : List Sd) : List Int := Lib.compact (mergeI (l.flatMap fun s => [s.t, s.b]))
theorem rowsF_eq {l : List Sd} {A B : List Rc} (h : l.Perm (sidesF A 0 ++ sidesF B 1)) : rowsF l = sortedF (coordsY A ++ coordsY B) := by
  obtain ⟨h1, h2⟩ := compact_sorted (mergeI_sorted (l.flatMap fun s => [s.t, s.b]))
  refine asc_uniq h1 (sorted_asc _) fun z => ?_
  show z ∈ Lib.compact _ ↔ _
  rw [h2, mergeI_mem, sorted_mem]
  have key : ∀ (L : List Rc) (n : Int), (z ∈ (sidesF L n).flatMap fun s => [s.t, s.b]) ↔ z ∈ coordsY L := by
    intro L n
    unfold sidesF coordsY
    simp only [List.mem_flatMap, List.mem_cons, List.not_mem_nil, or_false]
    constructor
    · rintro ⟨s, ⟨t, ht, rfl | rfl⟩, h | h⟩
      · exact ⟨t, ht, Or.inl h⟩
      · exact ⟨t, ht, Or.inr h⟩
      · exact ⟨t, ht, Or.inl h⟩
      · exact ⟨t, ht, Or.inr h⟩
    · rintro ⟨t, ht, h | h⟩
      · exact ⟨_, ⟨t, ht, Or.inl rfl⟩, Or.inl h⟩
      · exact ⟨_, ⟨t, ht, Or.inl rfl⟩, Or.inr h⟩
  rw [(h.flatMap_right fun s => [s.t, s.b]).mem_iff, List.flatMap_append, List.mem_append, List.mem_append, key, key]
theorem p85 (v : Value) (zs : List Int) (base : Nat) (w : World) (h : w.ownsRow base 3 1 v zs.length (zs.map (.int .i64))) (hl : zs.length ≤ 4194304) :
    Calls Try.prog 85 #[v] w fun e w' => e = .returned (.tuple #[]) ∧ w'.ownsRow base 3 1 v zs.length ((mergeI zs).map (.int .i64)) ∧ w.grownBy w' v.ownBlock := by
  have hown := h
  obtain ⟨hlen, hcase⟩ := h
  rcases hcase with ⟨rfl, h0⟩ | ⟨g, cap, cur, rfl, hbase, hb, h1, h2, h3, h4⟩
  · obtain rfl : zs = [] := List.eq_nil_of_length_eq_zero h0
    refine (Try.slices_Sort_int_none none 0 w).mono ?_
    rintro e w' ⟨rfl, rfl⟩
    have e0 : mergeI [] = [] := by simp [mergeI]
    rw [e0]
    exact ⟨rfl, hown, ⟨rfl, rfl, rfl, Nat.le_refl _, fun k _ _ => rfl⟩⟩
  · have hg : g < w.heap.size := (Array.getElem?_eq_some_iff.1 hb).1
    refine (Try.slices_Sort_int g 0 cap zs w (holds_of_blockI hb (by simpa using h4)) hg (by omega)).mono ?_
    rintro e w' ⟨rfl, n, os, rfl⟩
    exact ⟨rfl, ownsRow_sortedI (mergeI_len zs) hbase hb h1 h2 h3, grownBy_sortedI _⟩
theorem p86 (v : Value) (zs : List Int) (base : Nat) (w : World) (h : w.ownsRow base 3 1 v zs.length (zs.map (.int .i64))) (hl : zs.length ≤ 4194304) :
    Calls Try.prog 86 #[v] w fun e w' => ∃ u, e = .returned u ∧ w'.ownsRow base 3 1 u (Lib.compact zs).length ((Lib.compact zs).map (.int .i64)) ∧ w.grownBy w' v.ownBlock := by
  have hown := h
  obtain ⟨hlen, hcase⟩ := h
  rcases hcase with ⟨rfl, h0⟩ | ⟨g, cap, cur, rfl, hbase, hb, h1, h2, h3, h4⟩
  · obtain rfl : zs = [] := List.eq_nil_of_length_eq_zero h0
    refine (Try.slices_Compact_int_empty none 0 w).mono ?_
    rintro e w' ⟨rfl, rfl⟩
    exact ⟨_, rfl, hown, ⟨rfl, rfl, rfl, Nat.le_refl _, fun k _ _ => rfl⟩⟩
  · have hg : g < w.heap.size := (Array.getElem?_eq_some_iff.1 hb).1
    refine (Try.slices_Compact_int g 0 cap zs w (holds_of_blockI hb (by simpa using h4)) (by omega) h1).mono ?_
    rintro e w' ⟨rfl, q, rfl⟩
    have hcl : (Lib.compact zs).length ≤ zs.length := by
      unfold Lib.compact compactUpTo
      rw [List.length_map]
      exact Nat.le_trans (List.length_filter_le _ _) (by simp)
    have eg : ∀ d : Array Int, putRow (Value.int .i64) (Sort.ahead w q) g 0 d = grow (putRow (Value.int .i64) (Sort.ahead w q) g 0 d) #[] := fun d => (grow_empty _).symm
    rw [eg]
    refine ⟨_, rfl, ⟨by simp, .inr ⟨g, cap, _, rfl, hbase, heap_sortedI _ hb, by omega, h2, by simp [putCells, h3], ?_⟩⟩, grownBy_sortedI _⟩
    have := take_putCellsI cur (Lib.compact zs ++ List.replicate (zs.length - (Lib.compact zs).length) 0) (by simp; omega)
    have e2 := congrArg (List.take (Lib.compact zs).length) this
    rw [List.take_take, List.map_append, List.take_append_of_le_length (by simp), List.take_of_length_le (l := (Lib.compact zs).map _) (by simp)] at e2
    rw [← e2, Nat.mul_one, Nat.min_eq_left (by simp)]
end

section
open Go.RowKit
set_option maxHeartbeats 400000
set_option linter.unusedVariables false

theorem rows_take (L : List Sd) (k : Nat) (hk : k < L.length) : (L.take (k + 1)).flatMap (fun s => [s.t, s.b]) = (L.take k).flatMap (fun s => [s.t, s.b]) ++ [(L.getD k Sd.zero).t, (L.getD k Sd.zero).b] := by
  rw [List.take_succ_eq_append_getElem hk, List.flatMap_append, List.getD_eq_getElem?_getD, List.getElem?_eq_getElem hk]
  simp
theorem rows_len (L : List Sd) : (L.flatMap (fun s => [s.t, s.b])).length = L.length * 2 := by
  induction L with
  | nil => rfl
  | cons s L ih => rw [List.flatMap_cons, List.length_append, ih]; simp; omega
set_option maxHeartbeats 2000000 in
set_option maxRecDepth 100000 in
theorem p71 (v : Value) (L : List Sd) (w : World) (h : argS w w.heap.size v L) (hl : L.length ≤ 1048576) :
    Calls Try.prog 71 #[v] w fun e w' => ∃ u, e = .returned u ∧ Below w.heap.size w w' ∧ w'.ownsRow w.heap.size 3 1 u (rowsF L).length ((rowsF L).map (.int .i64)) := by
  obtain ⟨ao, cap, rfl, h⟩ := h
  obtain ⟨n, hn⟩ : ∃ n, L.length = n := ⟨_, rfl⟩
  rw [hn] at h hl
  have HN := Lib.hid hn
  rw [hn]
  clear hn
  have H := Lib.hid h
  clear h
  obtain ⟨i0, hi, hz0', hzs, hzb⟩ := info_parts infoI
  go_enter Try.func71, Try.ntmps71
  go_wp2
  go_loopw [3, 8] (fun s i wr => ∃ k : Nat, k ≤ n ∧ i = .int .i64 (k : Int) ∧ wr.ownsRow w.heap.size 3 1 s (k * 2) (((L.take k).flatMap (fun s => [s.t, s.b])).map (.int .i64)) ∧ Below w.heap.size w wr) (fun _ i _ => (n - (intOf i).toNat))
  case atStart => exact ⟨0, by omega, rfl, World.ownsRow_nil _ _ _ _, Below.refl _ _⟩
  case round =>
    obtain ⟨k, hk, rfl, hown, hnx⟩ := hrel
    by_cases hlt : k < n
    · obtain ⟨g, o, rfl, hblk, hc⟩ := H.out (by omega)
      obtain ⟨f0, f1, f2, f3, f4⟩ := hc k (by omega)
      replace f0 := (hnx.cell (p := ⟨g, o + k * 5, none⟩) hblk).trans f0
      replace f1 := (hnx.cell (p := ⟨g, o + k * 5 + 1, none⟩) hblk).trans f1
      replace f2 := (hnx.cell (p := ⟨g, o + k * 5 + 2, none⟩) hblk).trans f2
      replace f3 := (hnx.cell (p := ⟨g, o + k * 5 + 3, none⟩) hblk).trans f3
      replace f4 := (hnx.cell (p := ⟨g, o + k * 5 + 4, none⟩) hblk).trans f4
      have hh := rows_take L k (by rw [HN.out]; omega)
      clear hc
      generalize L.getD k Sd.zero = S at *
      have kk : IntKind.i64.wrap ((k : Int) + 1) = (k : Int) + 1 := IntWalk.i64_in _ (by omega)
      have e3 : ((L.take (k + 1)).flatMap (fun s => [s.t, s.b])).map (Value.int .i64) = ((L.take k).flatMap (fun s => [s.t, s.b])).map (Value.int .i64) ++ [.int .i64 S.t, .int .i64 S.b] := by rw [hh, List.map_append]; rfl
      have E3 := Lib.hid e3
      clear hh e3
      go_wp2_with (at_builtin; refine wpList_append_own _ rfl _ _ 54 rfl w.heap.size 3 i0 (.int .i64 0) 1 8 Try.underlying54 hi hz0' hzs hzb rfl (by decide) _ _ _ rfl ((hown.alloc _).alloc _) ⟨wr.heap.size + 1, 0, none⟩ 2 2 [.int .i64 S.t, .int .i64 S.b] rfl rfl ?c1 ?c2 ?c3 ?c4 ?c5 ?_)
      case c1 =>
        intro j u hj
        match j, hj with
        | 0, hj => simp at hj; subst hj; simp [Addr.add]
        | 1, hj => simp at hj; subst hj; simp [Addr.add]
      case c2 => intro u hu; simp at hu; rcases hu with rfl | rfl <;> rfl
      case c3 => unfold maxLen; omega
      case c4 => omega
      case c5 => have := hnx.size; simp; omega
      intro v' w3 hown' hgrow _
      have hnx3 : Below w.heap.size w w3 := rel_append (w2 := wr.alloc (.cells #[.int .i64 S.n, .int .i64 S.x, .int .i64 S.t, .int .i64 S.b, .int .i64 S.s] 63)) hnx hown (by constructor <;> go_grown) hnx.size hgrow
      rw [← E3.out] at hown'
      clear hgrow hown hnx f0 f1 f2 f3 f4
      go_wp2
      go_roundw
      case rel => exact ⟨k + 1, by omega, by simp, by rw [show (k + 1) * 2 = k * 2 + 2 by omega]; exact hown', hnx3⟩
      case measure => simp [intOf]; omega
    · obtain rfl : k = n := by omega
      have hend : L.take k = L := by rw [← HN.out]; exact List.take_length
      rw [hend] at hown
      have hlen : (L.flatMap (fun s => [s.t, s.b])).length = k * 2 := by rw [rows_len, HN.out]
      rw [← hlen] at hown
      have hl2 : (L.flatMap (fun s => [s.t, s.b])).length ≤ 4194304 := by omega
      clear hend hlen
      have HR : Hid (Lib.compact (mergeI (L.flatMap fun s => [s.t, s.b])) = rowsF L) := Lib.hid rfl
      generalize L.flatMap (fun s => [s.t, s.b]) = zs at *
      have hl3 := mergeI_len zs
      have C1 := Lib.hid (p85 _ zs w.heap.size wr hown hl2)
      have HB := Lib.hid hnx
      have HL := Lib.hid hl3
      clear hl3
      go_wp2_with (first | (go_at_call 85; ((with_reducible refine C1.out.mono ?_)); rintro e w1 ⟨rfl, hown1, hg1⟩) | (go_at_call 86; ((with_reducible refine (p86 _ (mergeI zs) w.heap.size w1 (by rw [HL.out]; exact hown1) (by rw [HL.out]; exact hl2)).mono ?_)); rintro e w2 ⟨u, rfl, hown2, hg2⟩))
      go_ret
      refine ⟨_, rfl, ?_, ?_⟩
      · have b1 := HB.out.grown hg1 HB.out.size (fun g e => (hown.lt g e).1)
        exact b1.grown hg2 b1.size (fun g e => (hown1.lt g e).1)
      · rw [← HR.out]; exact hown2
end

end Go.Proofs.Ythknkgblddoapaa
