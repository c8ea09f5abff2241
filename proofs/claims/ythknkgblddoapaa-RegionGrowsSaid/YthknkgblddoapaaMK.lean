import Derived.Test.YthknkgblddoapaaProg
import Derived.WalkKit
import Derived.WalkLawsBesides
import Derived.Outline
import Derived.Lib.Walk
import Derived.Deep.QuietTactic
import Derived.BigQuiet
import Derived.RowKit3
import Derived.Deep.LoopGhost
import Derived.Great.Walk
import Derived.Great.BuildSlice
import Derived.Laws.Rows
import Derived.Laws.Tables
import Derived.Laws.CopyOwn
import Derived.Lib.Hide
import Derived.Handy
import Derived.Deep.Onto
import Derived.Test.YthknkgblddoapaaMG
import Derived.Test.YthknkgblddoapaaMI
import Derived.Test.YthknkgblddoapaaMJ
import Derived.Test.YthknkgblddoapaaMH
import Derived.Test.YthknkgblddoapaaMA
namespace Go.Proofs.Ythknkgblddoapaa

section
open Go.RowKit
set_option maxHeartbeats 400000
set_option linter.unusedVariables false

theorem info29 : (Try.prog.info? 29).map (fun i => (i.zero, i.size, i.bytes)) = some (some (.agg #[.int .i64 0, .int .i64 0]), 2, 16) := by kernel_rfl
/-! The cells of bands, one after the other. -/
def rowsC (c : Band) (k : Nat) : List (Int × Int) := (List.range k).flatMap fun (j : Nat) => rowCells c.runs (c.y + (j : Int))
def runP (q : Int) (r : Int × Int) (j : Nat) : List (Int × Int) := (List.range j).map fun (t : Nat) => (r.1 + (t : Int), q)
theorem rowsC_succ (c : Band) (k : Nat) : rowsC c (k + 1) = rowsC c k ++ rowCells c.runs (c.y + (k : Int)) := by
  unfold rowsC
  rw [List.range_succ, List.flatMap_append]
  simp
theorem rowsC_mono (c : Band) : ∀ (d k : Nat), (rowsC c k).length ≤ (rowsC c (k + d)).length
  | 0, k => Nat.le_refl _
  | d + 1, k => by
    have := rowsC_mono c d k
    rw [show k + (d + 1) = k + d + 1 by omega, rowsC_succ, List.length_append]
    omega
theorem rowCells_take (R : List (Int × Int)) (q : Int) (i : Nat) (h : i < R.length) : rowCells (R.take (i + 1)) q = rowCells (R.take i) q ++ runCells q R[i] := by
  unfold rowCells
  rw [List.take_succ_eq_append_getElem h, List.flatMap_append]
  simp
theorem rowCells_mono (R : List (Int × Int)) (q : Int) (i : Nat) : (rowCells (R.take i) q).length ≤ (rowCells R q).length := by
  have : rowCells R q = rowCells (R.take i) q ++ rowCells (R.drop i) q := by
    unfold rowCells
    rw [← List.flatMap_append, List.take_append_drop]
  rw [this, List.length_append]
  omega
theorem runP_succ (q : Int) (r : Int × Int) (j : Nat) : runP q r (j + 1) = runP q r j ++ [(r.1 + (j : Int), q)] := by
  unfold runP
  rw [List.range_succ, List.map_append]
  rfl
theorem runP_len (q : Int) (r : Int × Int) (j : Nat) : (runP q r j).length = j := by unfold runP; simp
theorem allCells_app (a b : List Band) : allCells (a ++ b) = allCells a ++ allCells b := by unfold allCells; exact List.flatMap_append
theorem allCells_one (a : List Band) (c : Band) : allCells (a ++ [c]) = allCells a ++ rowsC c c.h.toNat := by
  rw [allCells_app]
  unfold allCells
  simp
  rfl
theorem cells_room {pre rest : List Band} {c : Band} {k i j : Nat} (hk : k < c.h.toNat) (hi : i < c.runs.length) (hj : j < (c.runs[i]).2.toNat) :
    (allCells pre ++ rowsC c k ++ rowCells (c.runs.take i) (c.y + (k : Int)) ++ runP (c.y + (k : Int)) c.runs[i] j).length + 1 ≤ (allCells (pre ++ c :: rest)).length := by
  have e : allCells (pre ++ c :: rest) = allCells pre ++ (rowsC c c.h.toNat ++ allCells rest) := by
    rw [allCells_app]
    rfl
  have h1 := rowsC_mono c (c.h.toNat - (k + 1)) (k + 1)
  rw [show k + 1 + (c.h.toNat - (k + 1)) = c.h.toNat by omega, rowsC_succ, List.length_append] at h1
  have h2 := rowCells_mono c.runs (c.y + (k : Int)) (i + 1)
  rw [rowCells_take _ _ _ hi, List.length_append] at h2
  have h3 : (runCells (c.y + (k : Int)) c.runs[i]).length = (c.runs[i]).2.toNat := by unfold runCells; simp
  rw [e]
  simp only [List.length_append, runP_len]
  omega
theorem grown_cell {X w3 : World} {r : Option Nat} (hg : X.grownBy w3 r) {T : Nat} (hT : T < X.heap.size) (hne : r ≠ some T) (j : Nat) : w3.cell? ⟨T, j, none⟩ = X.cell? ⟨T, j, none⟩ := by
  unfold World.cell?
  simp only
  rw [hg.block T hT (Ne.symm hne)]
def tilesR (L : List Rc) (bs : List Band) : List (Int × Int) := if 4096 < wsum L then [] else allCells bs
set_option maxHeartbeats 8000000 in
set_option maxRecDepth 100000 in
theorem c29 (v : Value) (A : List Rc) (bs : List Band) (w : World) (h : argR w w.heap.size v A) (cu : capOk v) (hbs : BandsOk bs) (hfl : buildF (tilF (partF A)) [] 0 = flat bs) :
    Calls Try.prog 29 #[v] w fun e w' => ∃ u, e = .returned u ∧ Below w.heap.size w w' ∧ w'.ownsRow w.heap.size 29 2 u (tilesR (flat bs) bs).length (cellsP (tilesR (flat bs) bs)) := by
  have C1 := Lib.hid (c54 v A w h cu)
  have hne := build_ne (a := tilF (partF A)) (b := []) 0 (tilF_ne (fun t ht => part_ne ht)) (fun t ht => by cases ht)
  have hap := build_apart (tilF (partF A)) [] 0
  have hlen := build_len (tilF (partF A)) [] 0 (by unfold tilF; rw [List.length_map]; exact partF_len A) (by simp)
  have hsum := allCells_len (l := bs) (fun b hb => hbs.2 b hb)
  rw [hfl] at C1 hne hap hlen
  clear h cu hfl
  have HNE := Lib.hid hne
  have HAP := Lib.hid hap
  have HBS := Lib.hid hbs
  obtain ⟨s, hs⟩ : ∃ s, wsum (flat bs) = s := ⟨_, rfl⟩
  rw [hs] at hsum
  have HSS := Lib.hid hs
  have HSUM := Lib.hid hsum
  have hs0 : 0 ≤ s := by omega
  clear hne hap hbs hs hsum
  obtain ⟨i0, hi, hz0', hzs, hzb⟩ := info_parts info29
  go_enter Try.func29, Try.ntmps29
  go_wp2_with (go_at_call 54; fail)
  refine C1.out.mono ?_
  rintro e w1 ⟨x1, rfl, hn1, own1⟩
  have C2 := c52 x1 (flat bs) w1.heap.size w1 (argR_own own1) (Nat.le_refl _) (by omega) HNE.out HAP.out
  rw [HSS.out] at C2
  go_wp2_with (go_at_call 52; fail)
  refine C2.mono ?_
  rintro e w2 ⟨rfl, hg2⟩
  have hn2 : Below w.heap.size w w2 := hn1.trans (hg2.mono hn1.size)
  have own2 := ownsRow_below own1 hg2
  clear C1 C2 own1 hg2 hn1
  by_cases hbig : 4096 < s
  · have hT : Hid (tilesR (flat bs) bs = []) := Lib.hid (by unfold tilesR; rw [HSS.out, if_pos hbig])
    go_wp2
    go_ret
    refine ⟨_, rfl, hn2, ?_⟩
    rw [hT.out]
    exact World.ownsRow_nil _ _ _ _
  · have hT : Hid (tilesR (flat bs) bs = allCells bs) := Lib.hid (by unfold tilesR; rw [HSS.out, if_neg hbig])
    have hd := decide_eq_false (p := 4096 < s) hbig
    obtain ⟨N, hN⟩ : ∃ N : Nat, s = (N : Int) := ⟨s.toNat, by omega⟩
    subst hN
    have hN2 : N ≤ 4096 := by omega
    go_wp2_with (refine wpList_make_own w2 rfl _ _ _ rfl w2.heap.size 29 i0 (.agg #[.int .i64 0, .int .i64 0]) 2 Try.underlying35 hi hz0' hzs .i64 .i64 _ N rfl rfl rfl (by rw [hzb]; omega) (by unfold maxLen; omega) (Nat.le_refl _) ?_)
    intro w3 own3 hg3
    have hb3 : Below w2.heap.size w2 w3 := (Below.refl _ _).grown hg3 (Nat.le_refl _) (fun k e => by cases e)
    obtain ⟨ax, cx, rfl, _, hcx1, hcx2⟩ := row_formS own2
    have hAX : argR w2 w2.heap.size (.slice ax (flat bs).length cx) (flat bs) := argR_own own2
    have hw2 := hn2.size
    clear hg3 own2 hbig
    go_wp2
    go_loopw [3, 5] (fun l out W => ∃ (pre rest : List Band) (ao : Option Addr) (cap : Nat), bs = pre ++ rest ∧ l = .slice ao (flat rest).length cap ∧ argR w2 w2.heap.size l (flat rest) ∧ ((flat rest).length ≤ cap ∧ cap ≤ maxLen) ∧ W.ownsRow w2.heap.size 29 2 out (allCells pre).length (cellsP (allCells pre)) ∧ Below w2.heap.size w2 W) (fun l _ _ => lenOf l)
    case atStart => exact ⟨[], bs, ax, cx, rfl, rfl, hAX, ⟨hcx1, hcx2⟩, own3, hb3⟩
    case round =>
      obtain ⟨pre, rest, ao, cap, hbs, rfl, hR, hcp, hown, hnx⟩ := hrel
      have HBP := Lib.hid hbs
      clear hbs hAX
      cases rest with
      | nil =>
        have hT2 : Hid (tilesR (flat bs) bs = allCells pre) := Lib.hid (by rw [hT.out, HBP.out, List.append_nil])
        have e0 : (flat ([] : List Band)).length = 0 := rfl
        rw [e0]
        clear hR hcp
        go_wp2
        go_ret
        refine ⟨_, rfl, hn2.trans (hnx.mono hw2), ?_⟩
        rw [hT2.out]
        exact hown.mono hw2
      | cons c rest =>
        have hok := HBS.out
        rw [HBP.out] at hok
        have hcok := hok.2 c (List.mem_append_right _ (List.mem_cons_self ..))
        have hpw := List.pairwise_append.1 hok.1
        have hth := (List.pairwise_cons.1 hpw.2.1).1
        have hrok : ∀ d ∈ rest, d.ok := fun d hd => hok.2 d (List.mem_append_right _ (List.mem_cons_of_mem _ hd))
        have hlc : 0 < c.flat.length := by rw [bflat_len2]; exact List.length_pos_iff.2 hcok.2.1
        have hRl : (flat (c :: rest)).length = c.flat.length + (flat rest).length := by rw [flat_cons, List.length_append]
        have hcne : ∀ t ∈ c.flat, t.emp = false := fun t ht => HNE.out t (by rw [HBP.out, flat_append, flat_cons]; exact List.mem_append_right _ (List.mem_append_left _ ht))
        have C1 := Lib.hid (c37 ao cap (flat (c :: rest)) wr ((hR.below hnx).mono hnx.size) hcp (by omega))
        have HTH := Lib.hid hth
        have HCO := Lib.hid hcok
        have HRO := Lib.hid hrok
        have HCN := Lib.hid hcne
        clear hok hcok hpw hth hrok hcne
        obtain ⟨q, hq⟩ : ∃ q, (flat (c :: rest)).length = q := ⟨_, rfl⟩
        rw [hq] at C1 hcp hRl hR ⊢
        have HQ := Lib.hid hq
        have hqb : q ≤ 1048576 := by rw [← HQ.out]; have e1 := hlen; rw [HBP.out, flat_append, List.length_append] at e1; omega
        have hq0 : 0 < q := by omega
        have HRL := Lib.hid hRl
        clear hq hRl
        go_wp2_with (go_at_call 37; fail)
        have hRl := HRL.out
        (with_reducible refine C1.out.mono ?_)
        rintro e w4 ⟨m, rfl, hfb, nq, rfl⟩
        have hm : m = c.flat.length := fb_flat HCO.out HTH.out HRO.out hfb
        subst hm
        have hB : argR w2 w2.heap.size (.slice ao c.flat.length cap) c.flat := by
          have := argR_take (m := c.flat.length) hR (by rw [HQ.out]; omega)
          rwa [flat_cons, List.take_left] at this
        have hbl2 := bflat_len2 c
        obtain ⟨M, hM⟩ : ∃ M, c.flat.length = M := ⟨_, rfl⟩
        rw [hM] at hB hRl hlc hbl2 ⊢
        obtain ⟨ao', cap', e0, hcl⟩ := hB
        injection e0 with e1 e2 e3
        subst e1
        subst e3
        clear e2
        rw [hM] at hcl
        obtain ⟨g, o, rfl, hgB, hcl⟩ := hcl hlc
        have HCL := Lib.hid (fun k (hk : k < c.runs.length) => (by have := hcl k (by omega); rwa [flat_getD c k hk] at this : _))
        have HM := Lib.hid hM
        obtain ⟨_, _, _, f3⟩ := hcl 0 hlc
        simp only [Nat.zero_mul, Nat.add_zero] at f3
        rw [flat_getD c 0 (by omega)] at f3
        simp only at f3
        replace f3 := (hnx.cell (p := ⟨g, o + 3, none⟩) hgB).trans f3
        have hMi : (0 : Int) < (M : Int) := by omega
        have hMc : M ≤ cap := by omega
        have hMb : M ≤ 1048576 := by omega
        have HRL2 := Lib.hid hRl
        have HBL2 := Lib.hid hbl2
        clear hcl hM C1 hfb hRl hbl2
        go_wp2
        have hR2 := Lib.hid hR
        have hcr := Lib.hid (show ∀ i, (hi : i < c.runs.length) → c.flat.getD i Rc.zero = ⟨(c.runs[i]).1, c.y, (c.runs[i]).2, c.h⟩ from fun i hi => flat_getD c i hi)
        go_loopw [5, 28] (fun out i W => ∃ k : Nat, (k : Int) ≤ c.h ∧ i = .int .i64 (k : Int) ∧ W.ownsRow w2.heap.size 29 2 out (allCells pre ++ rowsC c k).length (cellsP (allCells pre ++ rowsC c k)) ∧ Below w2.heap.size w2 W) (fun _ i _ => (c.h.toNat - (intOf i).toNat))
        case atStart => exact ⟨0, by have := HCO.out.1; omega, rfl, by rw [show rowsC c 0 = [] from rfl, List.append_nil]; exact hown, below_drewN hnx _⟩
        case round =>
          obtain ⟨k, hk, rfl, hown, hnx⟩ := hrel
          by_cases hkh : (k : Int) < c.h
          · go_wp2
            obtain ⟨O1, hO1⟩ : ∃ O1, allCells pre ++ rowsC c k = O1 := ⟨_, rfl⟩
            have HO1 := Lib.hid hO1
            rw [hO1] at hown
            clear hO1
            go_loopw [5, 33] (fun out i W => ∃ i' : Nat, i' ≤ M ∧ i = .int .i64 (i' : Int) ∧ W.ownsRow w2.heap.size 29 2 out (O1 ++ rowCells (c.runs.take i') (c.y + (k : Int))).length (cellsP (O1 ++ rowCells (c.runs.take i') (c.y + (k : Int)))) ∧ Below w2.heap.size w2 W) (fun _ i _ => (M - (intOf i).toNat))
            case atStart => exact ⟨0, Nat.zero_le _, rfl, by rw [show rowCells (c.runs.take 0) (c.y + (k : Int)) = [] from rfl, List.append_nil]; exact hown, hnx⟩
            case round =>
              obtain ⟨i, hi', rfl, hown, hnx⟩ := hrel
              by_cases hiM : i < M
              · have hir : i < c.runs.length := by have := HBL2.out; omega
                obtain ⟨f0, f1, f2, f3⟩ := HCL.out i hir
                replace f0 := (hnx.cell (p := ⟨g, o + i * 4, none⟩) hgB).trans f0
                replace f1 := (hnx.cell (p := ⟨g, o + i * 4 + 1, none⟩) hgB).trans f1
                replace f2 := (hnx.cell (p := ⟨g, o + i * 4 + 2, none⟩) hgB).trans f2
                replace f3 := (hnx.cell (p := ⟨g, o + i * 4 + 3, none⟩) hgB).trans f3
                have hb := ne_ways _ (HCN.out _ (getR_mem (L := c.flat) (k := i) (by rw [HM.out]; exact hiM)))
                rw [hcr.out i hir] at hb
                have hroom := Lib.hid (fun (j : Nat) (hj : j < (c.runs[i]).2.toNat) => cells_room (pre := pre) (rest := rest) (c := c) (k := k) (i := i) (j := j) (by omega) hir hj)
                have htk := rowCells_take c.runs (c.y + (k : Int)) i hir
                obtain ⟨r, hr⟩ : ∃ r, c.runs[i] = r := ⟨_, rfl⟩
                rw [hr] at f0 f2 hb hroom htk
                rw [← HBP.out, HO1.out] at hroom
                obtain ⟨O2, hO2⟩ : ∃ O2, O1 ++ rowCells (c.runs.take i) (c.y + (k : Int)) = O2 := ⟨_, rfl⟩
                rw [hO2] at hown hroom
                have htk2 : O1 ++ rowCells (c.runs.take (i + 1)) (c.y + (k : Int)) = O2 ++ runP (c.y + (k : Int)) r r.2.toNat := by rw [htk, ← List.append_assoc, hO2]; rfl
                have HTK := Lib.hid htk2
                obtain ⟨r1, r2⟩ := r
                simp only at f0 f2 hb hroom
                obtain ⟨_, _, _, _, b1, b2, b3, b4, b5, b6⟩ := hb
                have hkk2 : IntKind.i64.wrap (c.y + (k : Int)) = c.y + (k : Int) := IntWalk.i64_in _ (by omega)
                have hks : IntKind.i64.wrap ((i : Int) + 1) = (i : Int) + 1 := IntWalk.i64_in _ (by omega)
                have hT9 : wr.heap.size < (wr.alloc (.cells #[.int .i64 r1, .int .i64 c.y, .int .i64 r2, .int .i64 c.h] 33)).heap.size := by simp
                have hne9 : ∀ (x : Value), wr.ownsRow w2.heap.size 29 2 x O2.length (cellsP O2) → x.ownBlock ≠ some wr.heap.size := fun x hx e => by
                  have := (hx.lt _ e).2
                  omega
                have h9 := hne9 _ hown
                have own9 := hown.alloc (.cells #[.int .i64 r1, .int .i64 c.y, .int .i64 r2, .int .i64 c.h] 33)
                have nx9 := hnx.alloc hnx.size (.cells #[.int .i64 r1, .int .i64 c.y, .int .i64 r2, .int .i64 c.h] 33)
                have hsz9 := hnx.size
                obtain ⟨T9, hTe⟩ : ∃ T9, wr.heap.size = T9 := ⟨_, rfl⟩
                clear htk hO2 hr htk2 hne9 hown
                have O9 := Lib.hid own9
                have N9 := Lib.hid nx9
                have H9 := Lib.hid h9
                have z0 : (wr.alloc (.cells #[.int .i64 r1, .int .i64 c.y, .int .i64 r2, .int .i64 c.h] 33)).cell? ⟨wr.heap.size, 0, none⟩ = some (.int .i64 r1) := by simp
                have z1 : (wr.alloc (.cells #[.int .i64 r1, .int .i64 c.y, .int .i64 r2, .int .i64 c.h] 33)).cell? ⟨wr.heap.size, 1, none⟩ = some (.int .i64 c.y) := by simp
                have Z0 := Lib.hid z0
                have Z1 := Lib.hid z1
                clear own9 nx9 h9 z0 z1
                go_wp2
                rw [hTe] at hT9 Z0 Z1 H9 hsz9
                try rw [hTe]
                clear hTe
                go_loopw [5, 39] (fun out j W => ∃ j' : Nat, (j' : Int) ≤ r2 ∧ j = .int .i64 (j' : Int) ∧ W.ownsRow w2.heap.size 29 2 out (O2 ++ runP (c.y + (k : Int)) (r1, r2) j').length (cellsP (O2 ++ runP (c.y + (k : Int)) (r1, r2) j')) ∧ Below w2.heap.size w2 W ∧ out.ownBlock ≠ some T9 ∧ T9 < W.heap.size ∧ W.cell? ⟨T9, 0, none⟩ = some (.int .i64 r1) ∧ W.cell? ⟨T9, 1, none⟩ = some (.int .i64 c.y)) (fun _ j _ => (r2.toNat - (intOf j).toNat))
                case atStart => exact ⟨0, by omega, rfl, by rw [show runP (c.y + (k : Int)) (r1, r2) 0 = [] from rfl, List.append_nil]; exact O9.out, N9.out, H9.out, hT9, Z0.out, Z1.out⟩
                case round =>
                  obtain ⟨j, hj, rfl, hown, hnx, hnb, hT, y0, y1⟩ := hrel
                  by_cases hjr : (j : Int) < r2
                  · have hrm := hroom.out j (by omega)
                    have hps := runP_succ (c.y + (k : Int)) (r1, r2) j
                    have e3 : O2 ++ runP (c.y + (k : Int)) (r1, r2) (j + 1) = (O2 ++ runP (c.y + (k : Int)) (r1, r2) j) ++ [(r1 + (j : Int), c.y + (k : Int))] := by rw [hps, ← List.append_assoc]
                    have hrm2 : (O2 ++ runP (c.y + (k : Int)) (r1, r2) j).length + 1 ≤ N := by have := HSUM.out; omega
                    obtain ⟨O3, hO3⟩ : ∃ O3, O2 ++ runP (c.y + (k : Int)) (r1, r2) j = O3 := ⟨_, rfl⟩
                    rw [hO3] at hown hrm2 e3
                    have E3 := Lib.hid e3
                    have kj : IntKind.i64.wrap (r1 + (j : Int)) = r1 + (j : Int) := IntWalk.i64_in _ (by omega)
                    have kj1 : IntKind.i64.wrap ((j : Int) + 1) = (j : Int) + 1 := IntWalk.i64_in _ (by omega)
                    clear hrm hps e3 hO3
                    have hzT := hnx.size
                    go_wp2_with (at_builtin; refine wpList_append_two _ rfl _ _ 35 rfl w2.heap.size 29 i0 (.agg #[.int .i64 0, .int .i64 0]) 2 16 Try.underlying35 hi hz0' hzs hzb rfl (by decide) _ _ _ rfl (hown.alloc _) ⟨wr.heap.size, 0, none⟩ 1 1 [.int .i64 (r1 + (j : Int)), .int .i64 (c.y + (k : Int))] rfl rfl ?c1 ?c2 ?c3 ?c4 ?c5 ?_)
                    case c1 =>
                      intro j u hj
                      match j, hj with
                      | 0, hj => simp at hj; subst hj; first | (simp [Addr.add]; done) | exact (World.cell?_alloc_at _ _ _ _ (by simp)).trans rfl
                      | 1, hj => simp at hj; subst hj; first | (simp [Addr.add]; done) | exact (World.cell?_alloc_at _ _ _ _ (by simp)).trans rfl
                    case c2 => intro u hu; simp at hu; rcases hu with rfl | rfl <;> rfl
                    case c3 => unfold maxLen; omega
                    case c4 => omega
                    case c5 => simp; omega
                    intro v' w5 hown' hgrow hmv
                    have hT2 : T9 < (wr.alloc (.cells #[.int .i64 (r1 + (j : Int)), .int .i64 (c.y + (k : Int))] 29)).heap.size := by simp; omega
                    have y0' : w5.cell? ⟨T9, 0, none⟩ = some (.int .i64 r1) := (grown_cell hgrow hT2 hnb 0).trans (((Below.refl _ _).alloc (Nat.le_refl _) _ |>.cell (p := ⟨T9, 0, none⟩) hT).trans y0)
                    have y1' : w5.cell? ⟨T9, 1, none⟩ = some (.int .i64 c.y) := (grown_cell hgrow hT2 hnb 1).trans (((Below.refl _ _).alloc (Nat.le_refl _) _ |>.cell (p := ⟨T9, 1, none⟩) hT).trans y1)
                    have hnb' : v'.ownBlock ≠ some T9 := by
                      rcases hmv with e | e
                      · rw [e]; exact hnb
                      · intro e2
                        have := e _ e2
                        simp at this
                        omega
                    have hnx5 : Below w2.heap.size w2 w5 := below_app hnx hnx.size hown hgrow (by first | exact (Below.refl _ _).alloc (Nat.le_refl _) _ | exact below_drewN ((Below.refl _ _).alloc (Nat.le_refl _) _) _)
                    have hT5 : T9 < w5.heap.size := Nat.lt_of_lt_of_le hT2 hgrow.size
                    have hown5 : w5.ownsRow w2.heap.size 29 2 v' (O3 ++ [(r1 + (j : Int), c.y + (k : Int))]).length (cellsP (O3 ++ [(r1 + (j : Int), c.y + (k : Int))])) := by
                      rw [cellsP_append, List.length_append]
                      exact hown'
                    rw [← E3.out] at hown5
                    clear hgrow hmv hown hown' hnb y0 y1 hnx hT hT2
                    go_wp2
                    go_roundw
                    case rel => exact ⟨j + 1, by omega, by simp, hown5, hnx5, hnb', hT5, y0', y1'⟩
                    case measure => simp [intOf]; omega
                  · have hjq : j = r2.toNat := by omega
                    rw [hjq] at hown
                    rw [← HTK.out] at hown
                    have hdj := decide_eq_false (p := (j : Int) < r2) hjr
                    clear hjq hnb y0 y1
                    go_wp2
                    go_roundw
                    case rel => exact ⟨i + 1, by omega, by simp, hown, hnx⟩
                    case measure => simp [intOf]; omega
              · have hiq : i = M := by omega
                have hrr : O1 ++ rowCells (c.runs.take i) (c.y + (k : Int)) = allCells pre ++ rowsC c (k + 1) := by
                  rw [hiq, ← HBL2.out.symm, List.take_length, rowsC_succ, ← List.append_assoc, HO1.out]
                rw [hrr] at hown
                have hks : IntKind.i64.wrap ((k : Int) + 1) = (k : Int) + 1 := IntWalk.i64_in _ (by have := ne_ways _ (HCN.out _ (getR_mem (L := c.flat) (k := 0) (by rw [HM.out]; exact hlc))); rw [hcr.out 0 (by have := HBL2.out; omega)] at this; simp only at this; omega)
                clear hrr hiq
                go_wp2
                go_roundw
                case rel => exact ⟨k + 1, by omega, by simp, hown, hnx⟩
                case measure => simp [intOf]; omega
          · have hkq : k = c.h.toNat := by omega
            have hrr : allCells pre ++ rowsC c k = allCells (pre ++ [c]) := by rw [hkq, allCells_one]
            rw [hrr] at hown
            have hdk := decide_eq_false (p := (k : Int) < c.h) hkh
            have hdl : (flat rest).length = q - M := by have := HRL2.out; omega
            have HDL := Lib.hid hdl
            have HBP2 : Hid (bs = (pre ++ [c]) ++ rest) := Lib.hid (by rw [HBP.out, List.append_assoc]; rfl)
            have hmq : M ≤ q := by have := HRL2.out; omega
            clear hrr hkq hdl
            by_cases hMq : M < cap
            · have hMqi : (M : Int) < (cap : Int) := by omega
              have HDR : Hid ((flat (c :: rest)).drop M = flat rest) := Lib.hid (by rw [flat_cons, ← HM.out, List.drop_left])
              have hA3 := Lib.hid (argR_skip (m := M) hR2.out (by rw [HQ.out]; exact hmq))
              go_wp2
              go_roundw
              case rel => exact ⟨pre ++ [c], rest, some ⟨g, o + M * 4, none⟩, cap - M, HBP2.out, by rw [HDL.out], by have := hA3.out; rw [HDR.out] at this; exact this, by rw [HDL.out]; omega, hown, hnx⟩
              case measure => simp [lenOf]; omega
            · have hMc2 : cap = M := by omega
              have hqM : q = M := by omega
              have hrl : (flat rest) = [] := List.eq_nil_of_length_eq_zero (by rw [HDL.out]; omega)
              have HRL3 := Lib.hid hrl
              subst hMc2
              subst hqM
              clear hrl
              go_wp2
              go_roundw
              case rel => exact ⟨pre ++ [c], rest, some ⟨g, o, none⟩, 0, HBP2.out, by rw [HRL3.out]; rfl, by rw [HRL3.out]; exact argR_none _ _ _ _, by rw [HRL3.out]; unfold maxLen; simp, hown, hnx⟩
              case measure => simp [lenOf]; omega
end

section
open Go.RowKit
set_option maxHeartbeats 400000
set_option linter.unusedVariables false

theorem rc_ext {S T : Rc} (h1 : S.x = T.x) (h2 : S.y = T.y) (h3 : S.w = T.w) (h4 : S.h = T.h) : S = T := by
  obtain ⟨a, b, c, d⟩ := S
  obtain ⟨a', b', c', d'⟩ := T
  simp only at h1 h2 h3 h4
  rw [h1, h2, h3, h4]
instance : DecidableEq Rc := fun S T => decidable_of_iff (S.x = T.x ∧ S.y = T.y ∧ S.w = T.w ∧ S.h = T.h) ⟨fun h => rc_ext h.1 h.2.1 h.2.2.1 h.2.2.2, fun h => by rw [h]; exact ⟨rfl, rfl, rfl, rfl⟩⟩
theorem list_ne {a b : List Rc} {k : Nat} (h : ¬ a.getD k Rc.zero = b.getD k Rc.zero) : ¬ a = b := fun e => h (by rw [e])
theorem list_eq {a b : List Rc} (hl : a.length = b.length) (h : ∀ k, k < a.length → a.getD k Rc.zero = b.getD k Rc.zero) : a = b := by
  refine List.ext_getElem hl fun k h1 h2 => ?_
  have := h k h1
  rw [List.getD_eq_getElem?_getD, List.getD_eq_getElem?_getD, List.getElem?_eq_getElem h1, List.getElem?_eq_getElem h2] at this
  exact this
set_option maxHeartbeats 4000000 in
set_option maxRecDepth 100000 in
theorem c12 (u v : Value) (a b : List Rc) (B B' : Nat) (w : World) (la : a.length ≤ 4194304) (lb : b.length ≤ 4611686018427387904) (ga : argR w B u a) (gb : argR w B' v b) :
    Calls Try.prog 12 #[u, v] w fun e w' => e = .returned (.bool (decide (a = b))) ∧ ∃ q, w' = w.drewN q := by
  obtain ⟨ao, cap, rfl, h⟩ := ga
  obtain ⟨bo, cap2, rfl, h'⟩ := gb
  obtain ⟨n, hn⟩ : ∃ n, a.length = n := ⟨_, rfl⟩
  obtain ⟨m, hm⟩ : ∃ m, b.length = m := ⟨_, rfl⟩
  rw [hn] at h la ⊢
  rw [hm] at h' lb ⊢
  have HN := Lib.hid hn
  have HM := Lib.hid hm
  have H := Lib.hid h
  have H' := Lib.hid h'
  clear h h' hn hm
  by_cases hnm : n = m
  · subst hnm
    go_enter Try.func12, Try.ntmps12
    go_wp2
    go_loopw [13] (fun i wr => ∃ k : Nat, k ≤ n ∧ i = .int .i64 (k : Int) ∧ (∀ j, j < k → a.getD j Rc.zero = b.getD j Rc.zero) ∧ ∃ q, wr = w.drewN q) (fun i _ => (n - (intOf i).toNat))
    case atStart => exact ⟨0, by omega, rfl, fun j hj => absurd hj (Nat.not_lt_zero j), 0, rfl⟩
    case round =>
      obtain ⟨k, hk, rfl, hsm, q, rfl⟩ := hrel
      have HS := Lib.hid hsm
      clear hsm
      by_cases hlt : k < n
      · obtain ⟨g, o, rfl, hblk, hc⟩ := H.out (by omega)
        obtain ⟨g', o', rfl, hblk', hc'⟩ := H'.out (by omega)
        obtain ⟨f0, f1, f2, f3⟩ := hc k hlt
        obtain ⟨h0, h1, h2, h3⟩ := hc' k hlt
        have NE := Lib.hid (fun h => decide_eq_false (list_ne (a := a) (b := b) (k := k) h))
        have EX := Lib.hid (fun (e : a.getD k Rc.zero = b.getD k Rc.zero) j (hj : j < k + 1) => (show a.getD j Rc.zero = b.getD j Rc.zero from by
          rcases Nat.lt_or_eq_of_le (Nat.le_of_lt_succ hj) with h | h
          · exact HS.out j h
          · rw [h]; exact e))
        generalize a.getD k Rc.zero = S at *
        generalize b.getD k Rc.zero = T at *
        have kk : IntKind.i64.wrap ((k : Int) + 1) = (k : Int) + 1 := IntWalk.i64_in _ (by omega)
        clear hc hc'
        by_cases e0 : S.x = T.x
        · by_cases e1 : S.y = T.y
          · by_cases e2 : S.w = T.w
            · by_cases e3 : S.h = T.h
              · have EY := Lib.hid (EX.out (rc_ext e0 e1 e2 e3))
                rw [← e0] at h0
                rw [← e1] at h1
                rw [← e2] at h2
                rw [← e3] at h3
                clear e0 e1 e2 e3 EX NE HS
                go_wp2
                go_quiet (fail)
                go_wp2
                go_roundw
                case rel => exact ⟨k + 1, by omega, by simp, EY.out, _, rfl⟩
                case measure => simp [intOf]; omega
              · have HF := Lib.hid (NE.out fun h => e3 (by rw [h]))
                have hd : (S.h == T.h) = false := by simp [e3]
                rw [← e0] at h0
                rw [← e1] at h1
                rw [← e2] at h2
                clear e0 e1 e2 EX NE HS
                go_wp2
                go_quiet (fail)
                go_wp2
                go_ret
                exact ⟨ret_bool HF.out.symm, _, by first | rfl | exact World.drewN_drewN _ _ _⟩
            · have HF := Lib.hid (NE.out fun h => e2 (by rw [h]))
              have hd : (S.w == T.w) = false := by simp [e2]
              rw [← e0] at h0
              rw [← e1] at h1
              clear e0 e1 EX NE HS
              go_wp2
              go_quiet (fail)
              go_wp2
              go_ret
              exact ⟨ret_bool HF.out.symm, _, by first | rfl | exact World.drewN_drewN _ _ _⟩
          · have HF := Lib.hid (NE.out fun h => e1 (by rw [h]))
            have hd : (S.y == T.y) = false := by simp [e1]
            rw [← e0] at h0
            clear e0 EX NE HS
            go_wp2
            go_quiet (fail)
            go_wp2
            go_ret
            exact ⟨ret_bool HF.out.symm, _, by first | rfl | exact World.drewN_drewN _ _ _⟩
        · have HF := Lib.hid (NE.out fun h => e0 (by rw [h]))
          have hd : (S.x == T.x) = false := by simp [e0]
          clear EX NE HS
          go_wp2
          go_quiet (fail)
          go_wp2
          go_ret
          exact ⟨ret_bool HF.out.symm, _, by first | rfl | exact World.drewN_drewN _ _ _⟩
      · obtain rfl : k = n := by omega
        have HT := Lib.hid (decide_eq_true (list_eq (a := a) (b := b) (by rw [HN.out, HM.out]) (by rw [HN.out]; exact HS.out)))
        clear HS
        go_wp2
        go_ret
        exact ⟨ret_bool HT.out.symm, _, rfl⟩
  · have hne : decide (a = b) = false := decide_eq_false fun e => hnm (by rw [← HN.out, ← HM.out, e])
    have HE := Lib.hid hne
    have h1 : ¬ ((n : Int) = (m : Int)) := by omega
    clear hne
    go_enter Try.func12, Try.ntmps12
    go_wp2
    go_ret
    exact ⟨ret_bool HE.out.symm, 0, rfl⟩
theorem c12b (u v : Value) (a b : List Rc) (w : World) (r : Bool) (hr : decide (a = b) = r) (la : a.length ≤ 4194304) (lb : b.length ≤ 4611686018427387904) (ga : argR w w.heap.size u a) (gb : argR w w.heap.size v b) :
    Calls Try.prog 12 #[u, v] w fun e w' => e = .returned (.bool r) ∧ Below w.heap.size w w' :=
  (c12 u v a b _ _ w la lb ga gb).mono fun _ _ ⟨he, q, hw⟩ => ⟨by rw [he, hr], by rw [hw]; exact below_drewN (Below.refl _ _) _⟩
theorem own_new (W : World) (t : TypeId) (n size : Nat) (cs : Array Value) (h : cs.size = n * size) (hn : n ≤ maxLen) : (W.alloc (.cells cs t)).ownsRow W.heap.size t size (.slice (some ⟨W.heap.size, 0, none⟩) n n) n cs.toList :=
  ⟨by simp [h], Or.inr ⟨W.heap.size, n, cs, rfl, Nat.le_refl _, heap_alloc_new _ _, Nat.le_refl _, hn, h, List.take_of_length_le (by simp [h])⟩⟩
theorem argR_lit (W : World) (l : List Rc) (hn : l.length ≤ maxLen) : argR (W.alloc (.cells (cellsR l).toArray 33)) (W.alloc (.cells (cellsR l).toArray 33)).heap.size (.slice (some ⟨W.heap.size, 0, none⟩) l.length l.length) l := by
  have hl : (cellsR l).toArray.size = l.length * 4 := by
    have : ∀ l : List Rc, (cellsR l).length = l.length * 4 := by
      intro l
      induction l with
      | nil => rfl
      | cons r l ih => rw [show cellsR (r :: l) = [.int .i64 r.x, .int .i64 r.y, .int .i64 r.w, .int .i64 r.h] ++ cellsR l from rfl, List.length_append, ih]; simp; omega
    simpa using this l
  have := own_new W 33 l.length 4 (cellsR l).toArray hl hn
  exact argR_own (by simpa using this)
theorem argR_up {W W' : World} {v : Value} {L : List Rc} (h : argR W W.heap.size v L) (hb : Below W.heap.size W W') : argR W' W'.heap.size v L := (h.below hb).mono hb.size
theorem argR_up2 {W W' W2 : World} {v : Value} {L : List Rc} (h : argR W W.heap.size v L) (hg : Below W'.heap.size W' W2) (hb : Below W.heap.size W W') : argR W2 W2.heap.size v L := argR_up (argR_up h hb) hg
theorem cap_lit (g n : Nat) (hn : n ≤ maxLen) : capOk (.slice (some ⟨g, 0, none⟩) n n) := fun ao n' cap e => by
  injection e with e1 e2 e3
  subst e2
  subst e3
  exact ⟨Nat.le_refl _, hn⟩
set_option maxHeartbeats 1000000 in
theorem c43 (x y a b : Int) (w : World) : Calls Try.prog 43 #[.int .i64 x, .int .i64 y, .int .i64 a, .int .i64 b] w fun e w' => ∃ g, e = .returned (.slice (some ⟨g, 0, none⟩) 1 1) ∧ Below w.heap.size w w' ∧ argR w' w'.heap.size (.slice (some ⟨g, 0, none⟩) 1 1) [⟨x, y, a, b⟩] := by
  have hl := argR_lit w [⟨x, y, a, b⟩] (by unfold maxLen; simp)
  have HL := Lib.hid hl
  clear hl
  go_enter Try.func43, Try.ntmps43
  go_wp2
  go_ret
  exact ⟨_, rfl, by go_grown, HL.out⟩
end

end Go.Proofs.Ythknkgblddoapaa
