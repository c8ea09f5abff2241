import Derived.Test.YthknkgblddoapaaProg
import Derived.WalkKit
import Derived.WalkLawsBesides
import Derived.Outline
import Derived.Lib.Walk
import Derived.Deep.QuietTactic
import Derived.BigQuiet
import Derived.RowKit3
import Derived.Deep.LoopGhost
import Derived.Great.Walk
import Derived.Great.BuildSlice
import Derived.Laws.Rows
import Derived.Laws.Tables
import Derived.Laws.CopyOwn
import Derived.Lib.Hide
import Derived.Handy
import Derived.Deep.Onto
import Derived.RegionTactic
import Derived.ChangeAlike
import Derived.Deep.RegionHeld3
import Derived.Test.YthknkgblddoapaaMA
import Derived.Test.YthknkgblddoapaaMB
import Derived.Test.YthknkgblddoapaaMC
import Derived.Test.YthknkgblddoapaaMH
import Derived.Test.YthknkgblddoapaaMJ
import Derived.Test.YthknkgblddoapaaH1
import Derived.Test.YthknkgblddoapaaH2
import Derived.Test.YthknkgblddoapaaGR1
namespace Go.Proofs.Ythknkgblddoapaa
open Go.RowKit
set_option maxHeartbeats 400000
set_option linter.unusedVariables false

theorem quiet_more {n : Nat} {args : Array Value} {W : World} {p k : Nat} {x : Value} (h : Calls Try.prog n args (W.drewN (p + k)) fun e w' => e = .returned x ∧ ∃ q, w' = (W.drewN (p + k)).drewN q) :
    Calls Try.prog n args (W.drewN (p + k)) fun e w' => e = .returned x ∧ ∃ m, w' = W.drewN (p + m) :=
  h.mono fun _ _ ⟨he, q, hw⟩ => ⟨he, k + q, by rw [hw, World.drewN_drewN, Nat.add_assoc]⟩
theorem gb_newc' (W : World) (x y z t : Value) (e : TypeId) : ∀ j u, [x, y, z, t][j]? = some u → (W.alloc (.cells #[x, y, z, t] e)).cell? ((⟨W.heap.size, 0, none⟩ : Addr).add j) = some u := by
  intro j u hj
  match j, hj with
  | 0, hj => simp at hj; subst hj; simp [Addr.add]
  | 1, hj => simp at hj; subst hj; simp [Addr.add]
  | 2, hj => simp at hj; subst hj; simp [Addr.add]
  | 3, hj => simp at hj; subst hj; simp [Addr.add]
theorem gb_flat0' {b : Band} (hb : b.runs ≠ []) : 0 < b.flat.length ∧ (cellsR b.flat)[1]? = some (.int .i64 b.y) ∧ (cellsR b.flat)[3]? = some (.int .i64 b.h) := by
  cases hR : b.runs with
  | nil => exact absurd hR hb
  | cons r Q =>
    unfold Band.flat
    rw [hR]
    exact ⟨by simp, rfl, rfl⟩

set_option maxHeartbeats 8000000 in
set_option maxRecDepth 100000 in
theorem gRight (v : Value) (L : List Rc) (w : World) (hL : ∀ t ∈ L, t.big) (hl : L.length ≤ 9223372036854775807) (h : argR w w.heap.size v L) :
    Calls Try.prog 15 #[v] w fun e w' => e = .returned (.bool (rightF L)) ∧ Below w.heap.size w w' := by
  obtain ⟨ao, cap, rfl, h⟩ := h
  obtain ⟨n, hn⟩ : ∃ n, L.length = n := ⟨_, rfl⟩
  rw [hn] at h hl ⊢
  have HN := Lib.hid hn
  have H := Lib.hid h
  have HB := Lib.hid hL
  clear h hn hL
  obtain ⟨i1, hi1, hz1', hzs1, hzb1⟩ := info_parts info23
  go_enter Try.func15, Try.ntmps15
  go_wp2
  go_loopw [3, 4, 9] (fun bv dv i W => ∃ (k : Nat) (O D : List Rc), k ≤ n ∧ i = .int .i64 (k : Int) ∧ St3 w W w.heap.size bv O dv D ∧ BD O ∧ BD D ∧ rightGo (L.drop k) O D = rightF L) (fun _ _ i _ => (n - (intOf i).toNat))
  case atStart => exact ⟨0, [], [], by omega, rfl, ⟨World.ownsRow_nil _ _ _ _, World.ownsRow_nil _ _ _ _, Or.inl rfl, Below.refl _ _, Nat.le_refl _⟩, Or.inl rfl, Or.inl rfl, rfl⟩
  case round =>
    obtain ⟨k, O, D, hk, rfl, hst, hO, hD, hgo⟩ := hrel
    have hnx : Below w.heap.size w wr := hst.2.2.2.1
    have hnz : w.heap.size ≤ wr.heap.size := hst.2.2.2.2
    have HST := Lib.hid hst
    have HO := Lib.hid hO
    have HD := Lib.hid hD
    have HGO := Lib.hid hgo
    obtain ⟨av, cv', rfl, hav, _, _⟩ := row_form hst.1
    obtain ⟨ad, cd, rfl, had, _, _⟩ := row_form hst.2.1
    have HJ : Hid (∀ W, wr.grownBy W none → Calls Try.prog 42 #[.slice av O.length cv', .slice ad D.length cd] W fun e w' => e = .returned (.bool (joinedF O D)) ∧ ∃ q, w' = W.drewN q) := Lib.hid (fun W hW => by
      have h3 := HST.out.up hW
      exact gJoined _ _ O D W.heap.size W.heap.size W HO.out.len HD.out.len HO.out.mod (fun q => (argR_own h3.1).below ⟨rfl, rfl, rfl, Nat.le_refl _, fun _ _ => rfl⟩) (fun q => (argR_own h3.2.1).below ⟨rfl, rfl, rfl, Nat.le_refl _, fun _ _ => rfl⟩))
    clear hst hO hD hgo
    by_cases hlt : k < n
    · obtain ⟨g, o, rfl, hblk, hc⟩ := H.out (by omega)
      obtain ⟨f0, f1, f2, f3⟩ := hc k hlt
      replace f0 := (hnx.cell (p := ⟨g, o + k * 4, none⟩) hblk).trans f0
      replace f1 := (hnx.cell (p := ⟨g, o + k * 4 + 1, none⟩) hblk).trans f1
      replace f2 := (hnx.cell (p := ⟨g, o + k * 4 + 2, none⟩) hblk).trans f2
      replace f3 := (hnx.cell (p := ⟨g, o + k * 4 + 3, none⟩) hblk).trans f3
      have hb := HB.out _ (getR_mem (L := L) (k := k) (by rw [HN.out]; exact hlt))
      have hdr := drop_get L k (by rw [HN.out]; exact hlt)
      have hG2 := HGO.out
      rw [hdr] at hG2
      generalize L.getD k Rc.zero = S at *
      have cv := fun w => t14 S.x S.y S.w S.h w hb.1.1 hb.1.2 hb.2.1 hb.2.2
      have ce := fun w => t16 S.x S.y S.w S.h w hb.1.1 hb.1.2 hb.2.1 hb.2.2
      have kk : IntKind.i64.wrap ((k : Int) + 1) = (k : Int) + 1 := IntWalk.i64_in _ (by omega)
      have HG2 := Lib.hid hG2
      have hw := rc_ways S.x S.y S.w S.h
      rw [show (⟨S.x, S.y, S.w, S.h⟩ : Rc) = S from rfl] at hw cv ce
      clear hc hb hdr hG2
      have hgw : g < wr.heap.size := by omega
      rcases (show (S.vld = false ∧ S.emp = true) ∨ (S.vld = true ∧ S.emp = true) ∨ (S.vld = true ∧ S.emp = false) by rcases hw with h | h | h | h <;> simp [h]) with ⟨r1, r2⟩ | ⟨r1, r2⟩ | ⟨r1, r2⟩
      · have HF : Hid (rightF L = false) := Lib.hid (by rw [← HG2.out]; exact rg_emp r2)
        rw [r1] at cv
        have CV := Lib.hid cv
        clear cv ce hw r1 r2
        go_wp2_with (go_at_call 40; ((with_reducible refine (CV.out _).mono ?_)); rintro e w1 ⟨rfl, hg⟩)
        go_ret
        exact ⟨ret_bool HF.out.symm, hnx.trans (hg.1.mono hnz)⟩
      · have HF : Hid (rightF L = false) := Lib.hid (by rw [← HG2.out]; exact rg_emp r2)
        rw [r1] at cv
        rw [r2] at ce
        have CV := Lib.hid cv
        have CE := Lib.hid ce
        clear cv ce hw r1 r2
        go_wp2_with (first | (go_at_call 40; ((with_reducible refine (CV.out _).mono ?_)); rintro e w1 ⟨rfl, hg⟩; replace f0 := (hg.1.cell (p := ⟨g, o + k * 4, none⟩) hgw).trans f0; replace f1 := (hg.1.cell (p := ⟨g, o + k * 4 + 1, none⟩) hgw).trans f1; replace f2 := (hg.1.cell (p := ⟨g, o + k * 4 + 2, none⟩) hgw).trans f2; replace f3 := (hg.1.cell (p := ⟨g, o + k * 4 + 3, none⟩) hgw).trans f3) | (go_at_call 41; ((with_reducible refine (CE.out _).mono ?_)); rintro e w1' ⟨rfl, hg'⟩))
        go_ret
        exact ⟨ret_bool HF.out.symm, hnx.trans ((hg.1.trans (hg'.1.mono hg.1.size)).mono hnz)⟩
      · rw [r1] at cv
        rw [r2] at ce
        have CV := Lib.hid cv
        have CE := Lib.hid ce
        have r2H := Lib.hid r2
        clear cv ce hw r1 r2
        go_wp2_with (first | (go_at_call 40; ((with_reducible refine (CV.out _).mono ?_)); rintro e w1 ⟨rfl, hg⟩; replace f0 := (hg.1.cell (p := ⟨g, o + k * 4, none⟩) hgw).trans f0; replace f1 := (hg.1.cell (p := ⟨g, o + k * 4 + 1, none⟩) hgw).trans f1; replace f2 := (hg.1.cell (p := ⟨g, o + k * 4 + 2, none⟩) hgw).trans f2; replace f3 := (hg.1.cell (p := ⟨g, o + k * 4 + 3, none⟩) hgw).trans f3) | (go_at_call 41; fail))
        (with_reducible refine (CE.out _).mono ?_)
        rintro e w2 ⟨rfl, hg'⟩
        have hgw1 : g < w1.heap.size := Nat.lt_of_lt_of_le hgw hg.1.size
        replace f0 := (hg'.1.cell (p := ⟨g, o + k * 4, none⟩) hgw1).trans f0
        replace f1 := (hg'.1.cell (p := ⟨g, o + k * 4 + 1, none⟩) hgw1).trans f1
        replace f2 := (hg'.1.cell (p := ⟨g, o + k * 4 + 2, none⟩) hgw1).trans f2
        replace f3 := (hg'.1.cell (p := ⟨g, o + k * 4 + 3, none⟩) hgw1).trans f3
        have hgr : wr.grownBy w2 none := gr_of (hg.1.trans (hg'.1.mono hg.1.size))
        have hst2 := HST.out.up hgr
        have HST2 := Lib.hid hst2
        have HJ2 : Hid (∀ W, w2.grownBy W none → Calls Try.prog 42 #[.slice av O.length cv', .slice ad D.length cd] W fun e w' => e = .returned (.bool (joinedF O D)) ∧ ∃ q, w' = W.drewN q) := Lib.hid (fun W hW => HJ.out W (grown_both hgr hW))
        have hn2 : Below w.heap.size w w2 := hst2.2.2.2.1
        have hz2 : w.heap.size ≤ w2.heap.size := hst2.2.2.2.2
        have hown2 := hst2.2.1
        have hDl := HD.out.len
        clear hg hg' hgr hst2 HST HJ hgw hgw1 hnx hnz CV CE
        rcases HD.out with hD0 | ⟨b, hbk, hDb, hbne⟩
        · subst hD0
          have HF := Lib.hid (rg_first (l := L.drop (k + 1)) (O := O) r2H.out)
          have hj := joined_none O
          rw [hj] at HJ2
          rw [show ([] : List Rc).length = 0 from rfl] at HJ2 HST2 ⊢
          clear hown2 had hDl hj
          go_wp2
          go_quiet (fail)
          go_wp2
          go_quiet ((go_at_call 42; exact quiet_more (HJ2.out _ ⟨rfl, rfl, rfl, Nat.le_refl _, fun _ _ _ => rfl⟩)))
          go_wp2
          go_region
          go_wp2
          go_roundw
          case rel => exact ⟨k + 1, [], [S], by omega, by simp, St3.next S (HST2.out.up (grown_drewN _ _ none)), HD.out, BD.one r2H.out, by rw [← HG2.out, HF.out]⟩
          case measure => simp [intOf]; omega
        · obtain ⟨Q, s, hQ⟩ := BD.last hbk
          obtain ⟨hbl, hb1, hb3⟩ := gb_flat0' hbk.2.1
          have hlg := last_get hQ
          have hcl := cellsR_at D (D.length - 1) (by rw [hDb]; omega)
          rw [← hDb] at hbl hb1 hb3 hlg
          rw [hlg] at hcl
          obtain ⟨gd, rfl⟩ := had hbl
          have d1c := (hown2.cellAt 1 (by omega)).trans hb1
          have d3c := (hown2.cellAt 3 (by omega)).trans hb3
          obtain ⟨l0, l1, l2, l3⟩ := hcl
          replace l0 := (hown2.cellAt ((D.length - 1) * 4) (by omega)).trans l0
          replace l1 := (hown2.cellAt ((D.length - 1) * 4 + 1) (by omega)).trans l1
          replace l2 := (hown2.cellAt ((D.length - 1) * 4 + 2) (by omega)).trans l2
          replace l3 := (hown2.cellAt ((D.length - 1) * 4 + 3) (by omega)).trans l3
          have hbb : ∀ r ∈ b.runs, Rc.emp ⟨r.1, b.y, r.2, b.h⟩ = false := fun r hr => hbne _ (by rw [hDb]; exact List.mem_map.2 ⟨r, hr, rfl⟩)
          have hsb := ne_ways _ (hbb s (by rw [hQ]; exact List.mem_append_right _ (List.mem_singleton.2 rfl)))
          obtain ⟨_, _, _, _, b1, b2, b3, b4, b5, b6⟩ := hsb
          simp only at b1 b2 b3 b4 b5 b6
          have HDB := Lib.hid hDb
          have HBK := Lib.hid hbk
          have HQ := Lib.hid hQ
          have HBN := Lib.hid hbne
          obtain ⟨nD, hnD⟩ : ∃ nD, D.length = nD := ⟨_, rfl⟩
          have HND := Lib.hid hnD
          have hDl2 := hDl
          rw [hnD] at hbl hDl HJ2 HST2 l0 l1 l2 l3 ⊢
          have t0 : IntKind.i64.wrap ((nD : Int) - 1) = (nD : Int) - 1 := IntWalk.i64_in _ (by omega)
          have t1 : ((nD : Int) - 1).toNat = nD - 1 := by omega
          have t2 : (0 : Int) ≤ (nD : Int) - 1 := by omega
          have t3 : (nD : Int) - 1 < (nD : Int) := by omega
          have t4 : (0 : Int) < (nD : Int) := by omega
          have t5 : (1 : Int) ≤ (nD : Int) := by omega
          have t6 : IntKind.i64.wrap (s.1 + s.2) = s.1 + s.2 := IntWalk.i64_in _ (by omega)
          have t7 : nD - 1 < nD := by omega
          have t8 : IntKind.i64.wrap (b.y + b.h) = b.y + b.h := IntWalk.i64_in _ (by omega)
          clear hDb hbk hQ hbne hnD hb1 hb3 hlg hbb had hown2
          rcases (show (S.y = b.y ∧ S.h = b.h) ∨ (S.y ≠ b.y) ∨ (S.y = b.y ∧ S.h ≠ b.h) by omega) with ⟨e1, e2⟩ | e1 | ⟨e1, e2⟩
          · have HRUN := Lib.hid (rg_run (l := L.drop (k + 1)) (O := O) r2H.out HBK.out HQ.out e1 e2)
            have q1 : (S.y == b.y) = true := by simp [e1]
            have q2 : (S.h == b.h) = true := by simp [e2]
            have E1 := Lib.hid e1
            have E2 := Lib.hid e2
            clear e1 e2
            by_cases hx : S.x ≤ s.1 + s.2
            · have HF : Hid (rightF L = false) := Lib.hid (by rw [← HG2.out, HDB.out, HRUN.out, if_pos hx])
              clear HJ2
              go_wp2
              go_quiet (fail)
              obtain ⟨w3, hw3⟩ : ∃ w3, w2.drewN nq = w3 := ⟨_, rfl⟩
              rw [hw3]
              have hst3 : St3 w w3 w.heap.size (.slice av O.length cv') O (.slice (some ⟨gd, 0, none⟩) nD cd) D := by rw [← hw3]; exact HST2.out.up (grown_drewN _ _ none)
              have hn3 : Below w.heap.size w w3 := hst3.2.2.2.1
              have hz3 : w.heap.size ≤ w3.heap.size := hst3.2.2.2.2
              replace f0 : w3.cell? ⟨g, o + k * 4, none⟩ = some (.int .i64 S.x) := by rw [← hw3]; exact f0
              replace f1 : w3.cell? ⟨g, o + k * 4 + 1, none⟩ = some (.int .i64 S.y) := by rw [← hw3]; exact f1
              replace f2 : w3.cell? ⟨g, o + k * 4 + 2, none⟩ = some (.int .i64 S.w) := by rw [← hw3]; exact f2
              replace f3 : w3.cell? ⟨g, o + k * 4 + 3, none⟩ = some (.int .i64 S.h) := by rw [← hw3]; exact f3
              replace l0 : w3.cell? ⟨gd, (nD - 1) * 4, none⟩ = some (.int .i64 s.1) := by rw [← hw3]; exact l0
              replace l1 : w3.cell? ⟨gd, (nD - 1) * 4 + 1, none⟩ = some (.int .i64 b.y) := by rw [← hw3]; exact l1
              replace l2 : w3.cell? ⟨gd, (nD - 1) * 4 + 2, none⟩ = some (.int .i64 s.2) := by rw [← hw3]; exact l2
              replace l3 : w3.cell? ⟨gd, (nD - 1) * 4 + 3, none⟩ = some (.int .i64 b.h) := by rw [← hw3]; exact l3
              have g0 : ∀ ob, (w3.alloc ob).cell? ⟨g, o + k * 4, none⟩ = some (.int .i64 S.x) := fun ob => ((Below.alloc (Below.refl w3.heap.size w3) (Nat.le_refl _) ob).cell (p := ⟨g, o + k * 4, none⟩) (Nat.lt_of_lt_of_le hblk hz3)).trans f0
              have g1 : ∀ ob, (w3.alloc ob).cell? ⟨g, o + k * 4 + 1, none⟩ = some (.int .i64 S.y) := fun ob => ((Below.alloc (Below.refl w3.heap.size w3) (Nat.le_refl _) ob).cell (p := ⟨g, o + k * 4 + 1, none⟩) (Nat.lt_of_lt_of_le hblk hz3)).trans f1
              have g2 : ∀ ob, (w3.alloc ob).cell? ⟨g, o + k * 4 + 2, none⟩ = some (.int .i64 S.w) := fun ob => ((Below.alloc (Below.refl w3.heap.size w3) (Nat.le_refl _) ob).cell (p := ⟨g, o + k * 4 + 2, none⟩) (Nat.lt_of_lt_of_le hblk hz3)).trans f2
              have g3 : ∀ ob, (w3.alloc ob).cell? ⟨g, o + k * 4 + 3, none⟩ = some (.int .i64 S.h) := fun ob => ((Below.alloc (Below.refl w3.heap.size w3) (Nat.le_refl _) ob).cell (p := ⟨g, o + k * 4 + 3, none⟩) (Nat.lt_of_lt_of_le hblk hz3)).trans f3
              have HST3 := Lib.hid hst3
              clear hw3 hst3 d1c d3c HST2 hn2 hz2
              go_wp2
              go_quiet (fail)
              go_wp2
              go_ret
              exact ⟨ret_bool HF.out.symm, hn3.trans (Below.mono (by first | exact below_drewN (Below.alloc (Below.refl _ _) (Nat.le_refl _) _) _ | exact Below.alloc (below_drewN (Below.refl _ _) _) (Nat.le_refl _) _) hz3)⟩
            · have HF : Hid (rightF L = rightGo (L.drop (k + 1)) O (D ++ [S])) := Lib.hid (by rw [← HG2.out, HDB.out, HRUN.out, if_neg hx])
              have hxd := decide_eq_false (p := S.x ≤ s.1 + s.2) hx
              have HX := Lib.hid hx
              clear hx HJ2
              go_wp2
              go_quiet (fail)
              obtain ⟨w3, hw3⟩ : ∃ w3, w2.drewN nq = w3 := ⟨_, rfl⟩
              rw [hw3]
              have hst3 : St3 w w3 w.heap.size (.slice av O.length cv') O (.slice (some ⟨gd, 0, none⟩) nD cd) D := by rw [← hw3]; exact HST2.out.up (grown_drewN _ _ none)
              have hn3 : Below w.heap.size w w3 := hst3.2.2.2.1
              have hz3 : w.heap.size ≤ w3.heap.size := hst3.2.2.2.2
              replace f0 : w3.cell? ⟨g, o + k * 4, none⟩ = some (.int .i64 S.x) := by rw [← hw3]; exact f0
              replace f1 : w3.cell? ⟨g, o + k * 4 + 1, none⟩ = some (.int .i64 S.y) := by rw [← hw3]; exact f1
              replace f2 : w3.cell? ⟨g, o + k * 4 + 2, none⟩ = some (.int .i64 S.w) := by rw [← hw3]; exact f2
              replace f3 : w3.cell? ⟨g, o + k * 4 + 3, none⟩ = some (.int .i64 S.h) := by rw [← hw3]; exact f3
              replace l0 : w3.cell? ⟨gd, (nD - 1) * 4, none⟩ = some (.int .i64 s.1) := by rw [← hw3]; exact l0
              replace l1 : w3.cell? ⟨gd, (nD - 1) * 4 + 1, none⟩ = some (.int .i64 b.y) := by rw [← hw3]; exact l1
              replace l2 : w3.cell? ⟨gd, (nD - 1) * 4 + 2, none⟩ = some (.int .i64 s.2) := by rw [← hw3]; exact l2
              replace l3 : w3.cell? ⟨gd, (nD - 1) * 4 + 3, none⟩ = some (.int .i64 b.h) := by rw [← hw3]; exact l3
              have g0 : ∀ ob, (w3.alloc ob).cell? ⟨g, o + k * 4, none⟩ = some (.int .i64 S.x) := fun ob => ((Below.alloc (Below.refl w3.heap.size w3) (Nat.le_refl _) ob).cell (p := ⟨g, o + k * 4, none⟩) (Nat.lt_of_lt_of_le hblk hz3)).trans f0
              have g1 : ∀ ob, (w3.alloc ob).cell? ⟨g, o + k * 4 + 1, none⟩ = some (.int .i64 S.y) := fun ob => ((Below.alloc (Below.refl w3.heap.size w3) (Nat.le_refl _) ob).cell (p := ⟨g, o + k * 4 + 1, none⟩) (Nat.lt_of_lt_of_le hblk hz3)).trans f1
              have g2 : ∀ ob, (w3.alloc ob).cell? ⟨g, o + k * 4 + 2, none⟩ = some (.int .i64 S.w) := fun ob => ((Below.alloc (Below.refl w3.heap.size w3) (Nat.le_refl _) ob).cell (p := ⟨g, o + k * 4 + 2, none⟩) (Nat.lt_of_lt_of_le hblk hz3)).trans f2
              have g3 : ∀ ob, (w3.alloc ob).cell? ⟨g, o + k * 4 + 3, none⟩ = some (.int .i64 S.h) := fun ob => ((Below.alloc (Below.refl w3.heap.size w3) (Nat.le_refl _) ob).cell (p := ⟨g, o + k * 4 + 3, none⟩) (Nat.lt_of_lt_of_le hblk hz3)).trans f3
              have HST3 := Lib.hid hst3
              clear hw3 hst3 d1c d3c HST2 hn2 hz2
              go_wp2
              go_quiet (fail)
              go_wp2_with (at_builtin; refine wpList_append_two _ rfl _ _ 22 rfl w.heap.size 33 i1 (.agg #[.int .i64 0, .int .i64 0, .int .i64 0, .int .i64 0]) 4 32 Try.underlying22 hi1 hz1' hzs1 hzb1 rfl (by decide) _ _ _ rfl (HST3.out.up (by first | exact grown_both (grown_both (World.grownBy_alloc _ _ none) (grown_drewN _ _ none)) (World.grownBy_alloc _ _ none) | exact grown_both (grown_both (World.grownBy_alloc _ _ none) (World.grownBy_alloc _ _ none)) (grown_drewN _ _ none))).2.1 ⟨_, 0, none⟩ 1 1 [.int .i64 S.x, .int .i64 S.y, .int .i64 S.w, .int .i64 S.h] rfl rfl ?c1 ?c2 ?c3 ?c4 ?c5 ?_)
              case c1 =>
                intro j u hj
                match j, hj with
                | 0, hj => simp at hj; subst hj; first | (simp [Addr.add]; done) | exact (World.cell?_alloc_at _ _ _ _ (by simp)).trans rfl
                | 1, hj => simp at hj; subst hj; first | (simp [Addr.add]; done) | exact (World.cell?_alloc_at _ _ _ _ (by simp)).trans rfl
                | 2, hj => simp at hj; subst hj; first | (simp [Addr.add]; done) | exact (World.cell?_alloc_at _ _ _ _ (by simp)).trans rfl
                | 3, hj => simp at hj; subst hj; first | (simp [Addr.add]; done) | exact (World.cell?_alloc_at _ _ _ _ (by simp)).trans rfl
              case c2 => intro u hu; simp at hu; rcases hu with rfl | rfl | rfl | rfl <;> rfl
              case c3 => unfold maxLen; omega
              case c4 => omega
              case c5 => simp; omega
              intro v5 w5 own5 hg5 hm5
              have hS5 := St3.push S (HST3.out.up (grown_both (grown_both (World.grownBy_alloc _ _ none) (grown_drewN _ _ none)) (World.grownBy_alloc _ _ none))) own5 hg5 hm5
              clear own5 hg5 hm5
              go_wp2
              go_roundw
              case rel => exact ⟨k + 1, O, D ++ [S], by omega, by simp, hS5, HO.out, by rw [HDB.out]; exact BD.snoc HBK.out HQ.out (by rw [← HDB.out]; exact HBN.out) r2H.out E1.out E2.out (by have := HX.out; omega), HF.out.symm⟩
              case measure => simp [intOf]; omega
          · have HNEW := Lib.hid (rg_new (l := L.drop (k + 1)) (O := O) r2H.out HBK.out (show ¬ (S.y = b.y ∧ S.h = b.h) by omega))
            have q1 : (S.y == b.y) = false := by simp [e1]
            clear e1 l0 l1 l2 l3 t0 t1 t2 t3 t5 t6 t7
            by_cases hlo : S.y < b.y + b.h
            · have HF : Hid (rightF L = false) := Lib.hid (by rw [← HG2.out, HDB.out, HNEW.out, if_pos (Or.inl hlo)])
              clear HJ2
              go_wp2
              go_quiet (fail)
              go_wp2
              go_quiet (fail)
              go_wp2
              go_ret
              exact ⟨ret_bool HF.out.symm, hn2.trans ⟨rfl, rfl, rfl, Nat.le_refl _, fun _ _ => rfl⟩⟩
            · have hlod := decide_eq_false (p := S.y < b.y + b.h) hlo
              cases hj : joinedF O D
              · have HF : Hid (rightGo (L.drop (k + 1)) D [S] = rightF L) := Lib.hid (by
                  have e := HNEW.out
                  rw [if_neg (by
                    rintro (h | h)
                    · exact hlo h
                    · rw [← HDB.out, hj] at h
                      cases h), ← HDB.out] at e
                  rw [← HG2.out, e])
                rw [hj] at HJ2
                clear hj hlo
                go_wp2
                go_quiet (fail)
                go_wp2
                go_quiet ((go_at_call 42; exact quiet_more (HJ2.out _ ⟨rfl, rfl, rfl, Nat.le_refl _, fun _ _ _ => rfl⟩)))
                go_wp2
                go_region
                go_wp2
                go_roundw
                case rel => exact ⟨k + 1, D, [S], by omega, by simp, St3.next S (HST2.out.up (grown_drewN _ _ none)), HD.out, BD.one r2H.out, HF.out⟩
                case measure => simp [intOf]; omega
              · have HF : Hid (rightF L = false) := Lib.hid (by rw [← HG2.out, HDB.out, HNEW.out, if_pos (Or.inr (by rw [← HDB.out]; exact hj))])
                rw [hj] at HJ2
                clear hj hlo
                go_wp2
                go_quiet (fail)
                go_wp2
                go_quiet ((go_at_call 42; exact quiet_more (HJ2.out _ ⟨rfl, rfl, rfl, Nat.le_refl _, fun _ _ _ => rfl⟩)))
                go_wp2
                go_ret
                exact ⟨ret_bool HF.out.symm, hn2.trans ⟨rfl, rfl, rfl, Nat.le_refl _, fun _ _ => rfl⟩⟩
          · have HNEW := Lib.hid (rg_new (l := L.drop (k + 1)) (O := O) r2H.out HBK.out (show ¬ (S.y = b.y ∧ S.h = b.h) by omega))
            have q1 : (S.y == b.y) = true := by simp [e1]
            have q2 : (S.h == b.h) = false := by simp [e2]
            clear e1 e2 l0 l1 l2 l3 t0 t1 t2 t3 t5 t6 t7
            by_cases hlo : S.y < b.y + b.h
            · have HF : Hid (rightF L = false) := Lib.hid (by rw [← HG2.out, HDB.out, HNEW.out, if_pos (Or.inl hlo)])
              clear HJ2
              go_wp2
              go_quiet (fail)
              go_wp2
              go_quiet (fail)
              go_wp2
              go_ret
              exact ⟨ret_bool HF.out.symm, hn2.trans ⟨rfl, rfl, rfl, Nat.le_refl _, fun _ _ => rfl⟩⟩
            · have hlod := decide_eq_false (p := S.y < b.y + b.h) hlo
              cases hj : joinedF O D
              · have HF : Hid (rightGo (L.drop (k + 1)) D [S] = rightF L) := Lib.hid (by
                  have e := HNEW.out
                  rw [if_neg (by
                    rintro (h | h)
                    · exact hlo h
                    · rw [← HDB.out, hj] at h
                      cases h), ← HDB.out] at e
                  rw [← HG2.out, e])
                rw [hj] at HJ2
                clear hj hlo
                go_wp2
                go_quiet (fail)
                go_wp2
                go_quiet ((go_at_call 42; exact quiet_more (HJ2.out _ ⟨rfl, rfl, rfl, Nat.le_refl _, fun _ _ _ => rfl⟩)))
                go_wp2
                go_region
                go_wp2
                go_roundw
                case rel => exact ⟨k + 1, D, [S], by omega, by simp, St3.next S (HST2.out.up (grown_drewN _ _ none)), HD.out, BD.one r2H.out, HF.out⟩
                case measure => simp [intOf]; omega
              · have HF : Hid (rightF L = false) := Lib.hid (by rw [← HG2.out, HDB.out, HNEW.out, if_pos (Or.inr (by rw [← HDB.out]; exact hj))])
                rw [hj] at HJ2
                clear hj hlo
                go_wp2
                go_quiet (fail)
                go_wp2
                go_quiet ((go_at_call 42; exact quiet_more (HJ2.out _ ⟨rfl, rfl, rfl, Nat.le_refl _, fun _ _ _ => rfl⟩)))
                go_wp2
                go_ret
                exact ⟨ret_bool HF.out.symm, hn2.trans ⟨rfl, rfl, rfl, Nat.le_refl _, fun _ _ => rfl⟩⟩
    · obtain rfl : n = k := by omega
      have hfin : (!joinedF O D) = rightF L := by
        have := HGO.out
        rw [List.drop_of_length_le (by rw [HN.out]; exact Nat.le_refl _)] at this
        exact this
      have CJ := Lib.hid (HJ.out wr ⟨rfl, rfl, rfl, Nat.le_refl _, fun _ _ _ => rfl⟩)
      have HFIN := Lib.hid hfin
      generalize joinedF O D = jv at CJ HFIN
      clear HJ hfin
      go_wp2_with (go_at_call 42; ((with_reducible refine CJ.out.mono ?_)); rintro e w9 ⟨rfl, q9, rfl⟩)
      go_ret
      exact ⟨ret_bool (by rw [← HFIN.out]), hnx.trans ⟨rfl, rfl, rfl, Nat.le_refl _, fun _ _ => rfl⟩⟩

end Go.Proofs.Ythknkgblddoapaa
