import Derived.Test.YthknkgblddoapaaProg
import Derived.WalkKit
import Derived.WalkLawsBesides
import Derived.Outline
import Derived.Lib.Walk
import Derived.Deep.QuietTactic
import Derived.BigQuiet
import Derived.RowKit3
import Derived.Deep.LoopGhost
import Derived.Great.Walk
import Derived.Great.BuildSlice
import Derived.Laws.Rows
import Derived.Laws.Tables
import Derived.Laws.CopyOwn
import Derived.Lib.Hide
import Derived.Handy
import Derived.Deep.Onto
import Derived.RegionTactic
import Derived.ChangeAlike
import Derived.Test.YthknkgblddoapaaMA
import Derived.Test.YthknkgblddoapaaMB
import Derived.Test.YthknkgblddoapaaMC
import Derived.Test.YthknkgblddoapaaMH
import Derived.Test.YthknkgblddoapaaMI
import Derived.Test.YthknkgblddoapaaMJ
import Derived.Test.YthknkgblddoapaaMK
import Derived.Test.YthknkgblddoapaaGW
namespace Go.Proofs.Ythknkgblddoapaa
open Go.RowKit
set_option maxHeartbeats 400000
set_option linter.unusedVariables false

/-- the first k elements grown, the others as they were. -/
def mixG (L : List Rc) (F : Rc → Rc) (k : Nat) : List Rc := (L.take k).map F ++ L.drop k
theorem mixG_zero (L : List Rc) (F : Rc → Rc) : mixG L F 0 = L := by simp [mixG]
theorem mixG_all (L : List Rc) (F : Rc → Rc) : mixG L F L.length = L.map F := by simp [mixG]
theorem mixG_len (L : List Rc) (F : Rc → Rc) (k : Nat) : (mixG L F k).length = L.length := by
  unfold mixG
  simp
  omega
theorem mixG_step (L : List Rc) (F : Rc → Rc) (k : Nat) (hk : k < L.length) : mixG L F k = (L.take k).map F ++ L.getD k Rc.zero :: L.drop (k + 1) ∧ mixG L F (k + 1) = (L.take k).map F ++ F (L.getD k Rc.zero) :: L.drop (k + 1) := by
  have e : L.getD k Rc.zero = L[k] := by rw [List.getD_eq_getElem?_getD, List.getElem?_eq_getElem hk]; rfl
  unfold mixG
  rw [e]
  constructor
  · rw [List.drop_eq_getElem_cons hk]
  · rw [List.take_succ_eq_append_getElem hk, List.map_append, List.append_assoc]
    rfl
theorem cellsR_four (l1 l2 : List Rc) (s t : Rc) : cellsR (l1 ++ t :: l2) = ((((cellsR (l1 ++ s :: l2)).set (l1.length * 4) (.int .i64 t.x)).set (l1.length * 4 + 1) (.int .i64 t.y)).set (l1.length * 4 + 2) (.int .i64 t.w)).set (l1.length * 4 + 3) (.int .i64 t.h) := by
  have hl := cellsR_len l1
  rw [cellsR_append, cellsR_append, List.set_append_right _ _ (by omega), List.set_append_right _ _ (by omega), List.set_append_right _ _ (by omega), List.set_append_right _ _ (by omega), hl, Nat.sub_self, show l1.length * 4 + 1 - l1.length * 4 = 1 by omega, show l1.length * 4 + 2 - l1.length * 4 = 2 by omega, show l1.length * 4 + 3 - l1.length * 4 = 3 by omega]
  rfl
theorem mixG_cells (L : List Rc) (F : Rc → Rc) (k : Nat) (hk : k < L.length) : cellsR (mixG L F (k + 1)) = ((((cellsR (mixG L F k)).set (k * 4) (.int .i64 (F (L.getD k Rc.zero)).x)).set (k * 4 + 1) (.int .i64 (F (L.getD k Rc.zero)).y)).set (k * 4 + 2) (.int .i64 (F (L.getD k Rc.zero)).w)).set (k * 4 + 3) (.int .i64 (F (L.getD k Rc.zero)).h) ∧
    (cellsR (mixG L F k))[k * 4]? = some (.int .i64 (L.getD k Rc.zero).x) ∧ (cellsR (mixG L F k))[k * 4 + 1]? = some (.int .i64 (L.getD k Rc.zero).y) ∧ (cellsR (mixG L F k))[k * 4 + 2]? = some (.int .i64 (L.getD k Rc.zero).w) ∧ (cellsR (mixG L F k))[k * 4 + 3]? = some (.int .i64 (L.getD k Rc.zero).h) := by
  obtain ⟨e1, e2⟩ := mixG_step L F k hk
  have hl : ((L.take k).map F).length = k := by simp; omega
  constructor
  · have := cellsR_four ((L.take k).map F) (L.drop (k + 1)) (L.getD k Rc.zero) (F (L.getD k Rc.zero))
    rw [hl] at this
    rw [e1, e2]
    exact this
  · have hg : (mixG L F k).getD k Rc.zero = L.getD k Rc.zero := by
      rw [e1, List.getD_eq_getElem?_getD, List.getElem?_append_right (by omega), hl, Nat.sub_self]
      rfl
    have := cellsR_at (mixG L F k) k (by rw [mixG_len]; exact hk)
    rw [hg] at this
    exact this
/-- four stores into a row of one's own. -/
theorem own_four {W : World} {base g n cap k : Nat} {L L' : List Rc} {a b c d : Value} (h : W.ownsRow base 33 4 (.slice (some ⟨g, 0, none⟩) n cap) n (cellsR L)) (hc : cellsR L' = ((((cellsR L).set k a).set (k + 1) b).set (k + 2) c).set (k + 3) d) :
    ((((W.setCell ⟨g, k, none⟩ a).setCell ⟨g, k + 1, none⟩ b).setCell ⟨g, k + 2, none⟩ c).setCell ⟨g, k + 3, none⟩ d).ownsRow base 33 4 (.slice (some ⟨g, 0, none⟩) n cap) n (cellsR L') := by
  rw [hc]
  exact ((((((h.stored _ _).1).stored _ _).1).stored _ _).1.stored _ _).1
theorem below_four {B : Nat} {a W : World} (h : Below B a W) {g : Nat} (hg : B ≤ g) (i j k l : Nat) (x y z t : Value) : Below B a ((((W.setCell ⟨g, i, none⟩ x).setCell ⟨g, j, none⟩ y).setCell ⟨g, k, none⟩ z).setCell ⟨g, l, none⟩ t) :=
  (((h.setCell hg _).setCell hg _).setCell hg _).setCell hg _
set_option maxHeartbeats 2000000 in
set_option maxRecDepth 100000 in
theorem gGrow (hB : BuildC) (v : Value) (A : List Rc) (m : Int) (w : World) (bA : ∀ t ∈ A, t.big) (ga : argR w w.heap.size v A) :
    Calls Try.prog 32 #[v, .int .i64 m] w fun e w' => ∃ x, e = .returned x ∧ Below w.heap.size w w' ∧ w'.ownsRow w.heap.size 33 4 x (buildF (growF (partF A) (min 1048576 (max m 0))) [] 0).length (cellsR (buildF (growF (partF A) (min 1048576 (max m 0))) [] 0)) := by
  have C1 := Lib.hid (gPart v A w bA ga)
  have CM := Lib.hid (c58 m w)
  have hl := partF_len A
  have hne : ∀ t ∈ partF A, t.emp = false := fun t ht => part_ne ht
  obtain ⟨d, hd⟩ : ∃ d, min 1048576 (max m 0) = d := ⟨_, rfl⟩
  have hd0 : 0 ≤ d ∧ d ≤ 1048576 := by omega
  rw [hd] at CM ⊢
  have C3 := Lib.hid (fun u W h => hB u (.slice none 0 0) (growF (partF A) d) [] 0 W (growF_ne hne hd0.1 hd0.2) (by simp) (by unfold growF; rw [List.length_map]; exact hl) (by simp) (by omega) h (argR_none _ _ _ _))
  have BM := Lib.hid (fun t (ht : t ∈ partF A) => part_mod t ht)
  clear hd ga bA hB hne
  generalize partF A = L at *
  go_enter Try.func32, Try.ntmps32
  go_wp2_with (first | (go_at_call 58; ((with_reducible refine CM.out.mono ?_)); rintro e w0 ⟨rfl, rfl⟩) | (go_at_call 36; fail))
  (with_reducible refine C1.out.mono ?_)
  rintro e w1 ⟨x1, rfl, g1, h1⟩
  have h1' := h1
  obtain ⟨ao, cap, rfl, hao, _, _⟩ := row_form h1
  obtain ⟨n, hn⟩ : ∃ n, L.length = n := ⟨_, rfl⟩
  rw [hn] at h1 hl hao ⊢
  have HN := Lib.hid hn
  have H1 := Lib.hid h1
  have HAO := Lib.hid hao
  have hg1 := g1.size
  clear hn h1 h1' hao
  go_wp2
  go_loopw [13] (fun i W => ∃ k : Nat, k ≤ n ∧ i = .int .i64 (k : Int) ∧ W.ownsRow w.heap.size 33 4 (.slice ao n cap) n (cellsR (mixG L (·.grow d) k)) ∧ Below w.heap.size w W) (fun i _ => (n - (intOf i).toNat))
  case atStart => exact ⟨0, by omega, rfl, by rw [mixG_zero]; exact H1.out, g1⟩
  case round =>
    obtain ⟨k, hk, rfl, hown, hnx⟩ := hrel
    by_cases hlt : k < n
    · obtain ⟨g, rfl⟩ := HAO.out (by omega)
      obtain ⟨mc, m0, m1, m2, m3⟩ := mixG_cells L (·.grow d) k (by rw [HN.out]; exact hlt)
      have f0 := (hown.cellAt (k * 4) (by omega)).trans m0
      have f1 := (hown.cellAt (k * 4 + 1) (by omega)).trans m1
      have f2 := (hown.cellAt (k * 4 + 2) (by omega)).trans m2
      have f3 := (hown.cellAt (k * 4 + 3) (by omega)).trans m3
      have z0 := hown.frozenAt (k * 4)
      have z1 := hown.frozenAt (k * 4 + 1)
      have z2 := hown.frozenAt (k * 4 + 2)
      have z3 := hown.frozenAt (k * 4 + 3)
      have hgb := (hown.lt g rfl).1
      have hgw := (hown.lt g rfl).2
      have hb := BM.out _ (getR_mem (L := L) (k := k) (by rw [HN.out]; exact hlt))
      generalize L.getD k Rc.zero = S at *
      obtain ⟨⟨b1, b2⟩, ⟨b3, b4⟩, ⟨b5, b6⟩, ⟨b7, b8⟩⟩ := hb
      have ce := fun W => t30 S.x S.y S.w S.h d W (by omega) (by omega) (by omega) (by omega)
      rw [show (⟨S.x, S.y, S.w, S.h⟩ : Rc) = S from rfl] at ce
      unfold Rc.val at ce
      have MC := Lib.hid mc
      clear mc m0 m1 m2 m3
      have HW := Lib.hid hown
      generalize S.grow d = G at *
      have CE := Lib.hid ce
      have kk : IntKind.i64.wrap ((k : Int) + 1) = (k : Int) + 1 := IntWalk.i64_in _ (by omega)
      clear ce hown
      go_wp2_with (go_at_call 59; ((with_reducible refine (CE.out _).mono ?_)); rintro e w2 ⟨rfl, hg⟩; replace f0 := (hg.1.cell (p := ⟨g, k * 4, none⟩) hgw).trans f0; replace f1 := (hg.1.cell (p := ⟨g, k * 4 + 1, none⟩) hgw).trans f1; replace f2 := (hg.1.cell (p := ⟨g, k * 4 + 2, none⟩) hgw).trans f2; replace f3 := (hg.1.cell (p := ⟨g, k * 4 + 3, none⟩) hgw).trans f3; replace z0 := (hg.1.frozen (p := ⟨g, k * 4, none⟩) hgw).trans z0; replace z1 := (hg.1.frozen (p := ⟨g, k * 4 + 1, none⟩) hgw).trans z1; replace z2 := (hg.1.frozen (p := ⟨g, k * 4 + 2, none⟩) hgw).trans z2; replace z3 := (hg.1.frozen (p := ⟨g, k * 4 + 3, none⟩) hgw).trans z3)
      have hbw := hg.1
      go_roundw
      case rel =>
        refine ⟨k + 1, by omega, by simp, own_four (ownsRow_below HW.out hbw) MC.out, below_four (hnx.trans (hbw.mono hnx.size)) hgb _ _ _ _ _ _ _ _⟩
      case measure => simp [intOf]; omega
    · obtain rfl : n = k := by omega
      have hend : mixG L (·.grow d) n = growF L d := by rw [← HN.out, mixG_all]; rfl
      rw [hend] at hown
      have hlg : (growF L d).length = n := by unfold growF; rw [List.length_map, HN.out]
      rw [← hlg] at hown
      have ho2 := argR_own hown
      rw [hlg] at ho2
      have CO := Lib.hid (C3.out _ _ ho2)
      have hz := hnx.size
      clear hend hlg hown ho2
      go_wp2_with (go_at_call 35; ((with_reducible refine CO.out.mono ?_)); rintro e w2 ⟨x, rfl, hg, hown⟩)
      go_ret
      exact ⟨_, rfl, hnx.trans (hg.mono hz), hown.mono hz⟩

end Go.Proofs.Ythknkgblddoapaa
