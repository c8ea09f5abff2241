import Derived.Test.YthknkgblddoapaaProg
import Derived.WalkKit
import Derived.WalkLawsBesides
import Derived.Outline
import Derived.Lib.Walk
import Derived.Deep.QuietTactic
import Derived.BigQuiet
import Derived.RowKit3
import Derived.Deep.LoopGhost
import Derived.Great.Walk
import Derived.Great.BuildSlice
import Derived.Laws.Rows
import Derived.Laws.Tables
import Derived.Laws.CopyOwn
import Derived.Lib.Hide
import Derived.Handy
import Derived.Deep.Onto
import Derived.RegionTactic
import Derived.ChangeAlike
import Derived.StillTailTactics
import Derived.Deep.RegionHeld3
import Derived.Test.YthknkgblddoapaaMA
import Derived.Test.YthknkgblddoapaaMB
import Derived.Test.YthknkgblddoapaaMC
import Derived.Test.YthknkgblddoapaaMH
import Derived.Test.YthknkgblddoapaaMI
import Derived.Test.YthknkgblddoapaaMJ
import Derived.Test.YthknkgblddoapaaMK
import Derived.Test.YthknkgblddoapaaGW
import Derived.Test.YthknkgblddoapaaGG
import Derived.Test.YthknkgblddoapaaQT
namespace Go.Proofs.Ythknkgblddoapaa
open Go.RowKit
set_option maxHeartbeats 400000
set_option linter.unusedVariables false

theorem at_row {pre rest : List Band} {c : Band} (t : Nat) (ht : t < c.runs.length) : (flat (pre ++ c :: rest)).getD ((flat pre).length + t) Rc.zero = ⟨(c.runs.getD t (0, 0)).1, c.y, (c.runs.getD t (0, 0)).2, c.h⟩ := by
  rw [flat_append, getD_app_r, flat_cons, getD_app_l _ _ _ (by rw [bflat_len2]; exact ht), flat_getD c t ht]
  have e : c.runs.getD t (0, 0) = c.runs[t] := by rw [List.getD_eq_getElem?_getD, List.getElem?_eq_getElem ht]; rfl
  rw [e]
theorem next_row {pre rest : List Band} {c : Band} (hc : c.ok) (hth : ∀ d ∈ rest, c.then d) (hok : ∀ d ∈ rest, d.ok) (h : 0 < (flat rest).length) : ((flat (pre ++ c :: rest)).getD ((flat pre).length + c.runs.length) Rc.zero).y ≠ c.y := by
  cases rest with
  | nil => exact absurd h (by simp [flat])
  | cons d rest =>
    have h1 := (hth d (List.mem_cons_self ..)).1
    have h2 := hc.1
    have h3 := List.length_pos_iff.2 (hok d (List.mem_cons_self ..)).2.1
    rw [flat_append, getD_app_r, flat_cons, show c.runs.length = c.flat.length + 0 by rw [bflat_len2, Nat.add_zero], getD_app_r, flat_cons, getD_app_l _ _ _ (by rw [bflat_len2]; exact h3), flat_getD d 0 h3]
    simp only
    omega
theorem cells_room2 {pre rest : List Band} {c : Band} {k i j : Nat} (hk : k < c.h.toNat) (hi : i < c.runs.length) (hj : j < (c.runs.getD i (0, 0)).2.toNat) :
    (allCells pre ++ rowsC c k ++ rowCells (c.runs.take i) (c.y + (k : Int)) ++ runP (c.y + (k : Int)) (c.runs.getD i (0, 0)) j).length + 1 ≤ (allCells (pre ++ c :: rest)).length := by
  have e : c.runs.getD i (0, 0) = c.runs[i] := by rw [List.getD_eq_getElem?_getD, List.getElem?_eq_getElem hi]; rfl
  rw [e] at hj ⊢
  exact cells_room hk hi hj
theorem rowCells_take2 (R : List (Int × Int)) (q : Int) (i : Nat) (h : i < R.length) : rowCells (R.take (i + 1)) q = rowCells (R.take i) q ++ runCells q (R.getD i (0, 0)) := by
  have e : R.getD i (0, 0) = R[i] := by rw [List.getD_eq_getElem?_getD, List.getElem?_eq_getElem h]; rfl
  rw [e]
  exact rowCells_take R q i h
theorem c55b (a : Int) (W : World) (p n : Nat) (h0 : -1099511627776 ≤ a) (h1 : a ≤ 1099511627776) : Calls Try.prog 55 #[.int .i64 a, .int .i64 16] (W.drewN (p + n)) fun e w' => e = .returned (.int .i64 (a / 16)) ∧ ∃ m, w' = W.drewN (p + m) :=
  (c55 a _ h0 h1).mono fun _ _ ⟨he, q, hw⟩ => ⟨he, n + q, by rw [hw, World.drewN_drewN, Nat.add_assoc]⟩
set_option maxHeartbeats 4000000 in
set_option maxRecDepth 100000 in
theorem gTiles (hB : BuildC) (v : Value) (A : List Rc) (bs : List Band) (w : World) (bA : ∀ t ∈ A, t.big) (ga : argR w w.heap.size v A) (hbs : BandsOk bs) (hfl : buildF (tilF (partF A)) [] 0 = flat bs) :
    Calls Try.prog 30 #[v] w fun e w' => ∃ u, e = .returned u ∧ Below w.heap.size w w' ∧ w'.ownsRow w.heap.size 29 2 u (tilesR (flat bs) bs).length (cellsP (tilesR (flat bs) bs)) := by
  have C1 := Lib.hid (gPart v A w bA ga)
  have hl := partF_len A
  have hne : ∀ t ∈ partF A, t.emp = false := fun t ht => part_ne ht
  have hlen := build_len (tilF (partF A)) [] 0 (by unfold tilF; rw [List.length_map]; exact hl) (by simp)
  have hneB := build_ne 0 (tilF_ne hne) (fun t (ht : t ∈ ([] : List Rc)) => (by cases ht))
  have C3 := Lib.hid (fun u W h => hB u (.slice none 0 0) (tilF (partF A)) [] 0 W (tilF_ne hne) (by simp) (by unfold tilF; rw [List.length_map]; exact hl) (by simp) (by omega) h (argR_none _ _ _ _))
  rw [hfl] at hlen hneB C3
  have HNE := Lib.hid hneB
  have HBS := Lib.hid hbs
  have BM := Lib.hid (fun t (ht : t ∈ partF A) => ne_ways t (hne t ht))
  clear hfl ga bA hB hne hneB hbs
  generalize partF A = L at *
  go_enter Try.func30, Try.ntmps30
  go_wp2_with (go_at_call 36; fail)
  (with_reducible refine C1.out.mono ?_)
  rintro e w1 ⟨x1, rfl, g1, h1⟩
  obtain ⟨ao, cap, rfl, hao, _, _⟩ := row_form h1
  obtain ⟨n, hn⟩ : ∃ n, L.length = n := ⟨_, rfl⟩
  rw [hn] at h1 hl hao ⊢
  have HN := Lib.hid hn
  have H1 := Lib.hid h1
  have HAO := Lib.hid hao
  have hg1 := g1.size
  clear hn h1 hao
  go_wp2
  go_loopw [19] (fun i W => ∃ k : Nat, k ≤ n ∧ i = .int .i64 (k : Int) ∧ W.ownsRow w.heap.size 33 4 (.slice ao n cap) n (cellsR (mixG L Rc.til k)) ∧ Below w.heap.size w W) (fun i _ => (n - (intOf i).toNat))
  case atStart => exact ⟨0, by omega, rfl, by rw [mixG_zero]; exact H1.out, g1⟩
  case round =>
    obtain ⟨k, hk, rfl, hown, hnx⟩ := hrel
    by_cases hlt : k < n
    · obtain ⟨g, rfl⟩ := HAO.out (by omega)
      obtain ⟨mc, m0, m1, m2, m3⟩ := mixG_cells L Rc.til k (by rw [HN.out]; exact hlt)
      have f0 := (hown.cellAt (k * 4) (by omega)).trans m0
      have f1 := (hown.cellAt (k * 4 + 1) (by omega)).trans m1
      have f2 := (hown.cellAt (k * 4 + 2) (by omega)).trans m2
      have f3 := (hown.cellAt (k * 4 + 3) (by omega)).trans m3
      have z0 := hown.frozenAt (k * 4)
      have z1 := hown.frozenAt (k * 4 + 1)
      have z2 := hown.frozenAt (k * 4 + 2)
      have z3 := hown.frozenAt (k * 4 + 3)
      have hgb := (hown.lt g rfl).1
      have hb := BM.out _ (getR_mem (L := L) (k := k) (by rw [HN.out]; exact hlt))
      generalize L.getD k Rc.zero = S at *
      obtain ⟨sx, sy, sw, sh⟩ := S
      simp only [Rc.til] at f0 f1 f2 f3 hb mc
      obtain ⟨_, _, _, _, b1, b2, b3, b4, b5, b6⟩ := hb
      have MC := Lib.hid mc
      clear mc m0 m1 m2 m3
      have HW := Lib.hid hown
      have kk : IntKind.i64.wrap ((k : Int) + 1) = (k : Int) + 1 := IntWalk.i64_in _ (by omega)
      have k1 : IntKind.i64.wrap (sx + sw) = sx + sw := IntWalk.i64_in _ (by omega)
      have k2 : IntKind.i64.wrap (sy + sh) = sy + sh := IntWalk.i64_in _ (by omega)
      have k3 : IntKind.i64.wrap (sx + sw - 1) = sx + sw - 1 := IntWalk.i64_in _ (by omega)
      have k4 : IntKind.i64.wrap (sy + sh - 1) = sy + sh - 1 := IntWalk.i64_in _ (by omega)
      have k5 : IntKind.i64.wrap ((sx + sw - 1) / 16 + 1) = (sx + sw - 1) / 16 + 1 := IntWalk.i64_in _ (by omega)
      have k6 : IntKind.i64.wrap ((sy + sh - 1) / 16 + 1) = (sy + sh - 1) / 16 + 1 := IntWalk.i64_in _ (by omega)
      have k7 : IntKind.i64.wrap ((sx + sw - 1) / 16 + 1 - sx / 16) = (sx + sw - 1) / 16 + 1 - sx / 16 := IntWalk.i64_in _ (by omega)
      have k8 : IntKind.i64.wrap ((sy + sh - 1) / 16 + 1 - sy / 16) = (sy + sh - 1) / 16 + 1 - sy / 16 := IntWalk.i64_in _ (by omega)
      clear hown
      go_wp2
      go_quiet ((go_at_call 55; exact Calls.quiet_of (c55 _ _ (by omega) (by omega))))
      go_wp2
      refine wp_region_quiet_tail 38 (by kernel_rfl) (by kernel_rfl) ?_
      simp only [List.take_succ_cons, List.take_zero, List.drop_succ_cons, List.drop_zero]
      repeat (go_big_quiet_step ((go_at_call 55; exact c55b _ _ _ _ (by omega) (by omega))))
      refine wpQuiet_nil ?_
      intro _ hw'
      obtain ⟨nq2, hw''⟩ := hw'
      subst hw''
      go_wp2
      have hbw : Below wr.heap.size wr (wr.drewN (nq + nq2)) := ⟨rfl, rfl, rfl, Nat.le_refl _, fun _ _ => rfl⟩
      go_roundw
      case rel =>
        refine ⟨k + 1, by omega, by simp, own_four (ownsRow_below HW.out hbw) MC.out, below_four (hnx.trans (hbw.mono hnx.size)) hgb _ _ _ _ _ _ _ _⟩
      case measure => simp [intOf]; omega
    · obtain rfl : n = k := by omega
      have hend : mixG L Rc.til n = tilF L := by rw [← HN.out, mixG_all]; rfl
      rw [hend] at hown
      have hlg : (tilF L).length = n := by unfold tilF; rw [List.length_map, HN.out]
      rw [← hlg] at hown
      have ho2 := argR_own hown
      rw [hlg] at ho2
      have CO := Lib.hid (C3.out _ _ ho2)
      have hz := hnx.size
      clear hend hlg hown ho2
      go_wp2_with (go_at_call 35; fail)
      (with_reducible refine CO.out.mono ?_)
      rintro e w2 ⟨x, rfl, hg, hown⟩
      have hn2 : Below w.heap.size w w2 := hnx.trans (hg.mono hz)
      have own2 := hown.mono hz
      clear hg hown CO hnx
      have hw2 := hn2.size
      have hap := flat_apart HBS.out
      have hsum := allCells_len (l := bs) (fun b hb => HBS.out.2 b hb)
      have HW := Lib.hid (wsum_take_bd (fun t ht => ne_inW (HNE.out t ht)) hap)
      obtain ⟨al, cl, rfl, hal, _, _⟩ := row_form own2
      obtain ⟨nl, hnl⟩ : ∃ nl, (flat bs).length = nl := ⟨_, rfl⟩
      have hcells := fun k (hk : k < (flat bs).length) => cellsR_at (flat bs) k hk
      have hcell2 : Hid (0 < nl → ∃ gl, al = some ⟨gl, 0, none⟩ ∧ gl < w2.heap.size ∧ ∀ k, k < nl → w2.cell? ⟨gl, k * 4, none⟩ = some (.int .i64 ((flat bs).getD k Rc.zero).x) ∧ w2.cell? ⟨gl, k * 4 + 1, none⟩ = some (.int .i64 ((flat bs).getD k Rc.zero).y) ∧ w2.cell? ⟨gl, k * 4 + 2, none⟩ = some (.int .i64 ((flat bs).getD k Rc.zero).w) ∧ w2.cell? ⟨gl, k * 4 + 3, none⟩ = some (.int .i64 ((flat bs).getD k Rc.zero).h)) := Lib.hid (fun h0 => by
        rw [hnl] at hal own2 hcells
        obtain ⟨gl, rfl⟩ := hal h0
        refine ⟨gl, rfl, (own2.lt gl rfl).2, fun k hk => ?_⟩
        obtain ⟨c0, c1, c2, c3⟩ := hcells k hk
        exact ⟨(own2.cellAt _ (by omega)).trans c0, (own2.cellAt _ (by omega)).trans c1, (own2.cellAt _ (by omega)).trans c2, (own2.cellAt _ (by omega)).trans c3⟩)
      rw [hnl] at hlen ⊢
      have HNL := Lib.hid hnl
      have HSUM := Lib.hid hsum
      clear hcells hal own2 hnl hap hsum H1 HAO HN BM C1 C3
      go_wp2
      go_loopw [7, 77] (fun s i W => ∃ k : Nat, k ≤ nl ∧ i = .int .i64 (k : Int) ∧ s = .int .i64 (wsum ((flat bs).take k)) ∧ ∃ q, W = w2.drewN q) (fun _ i _ => (nl - (intOf i).toNat))
      case atStart => exact ⟨0, by omega, rfl, rfl, 0, rfl⟩
      case round =>
        obtain ⟨k, hk, rfl, rfl, q0, rfl⟩ := hrel
        by_cases hlt : k < nl
        · obtain ⟨gl, rfl, hgl, hc⟩ := hcell2.out (by omega)
          obtain ⟨f0, f1, f2, f3⟩ := hc k hlt
          have hb := ne_ways _ (HNE.out _ (getR_mem (L := flat bs) (k := k) (by rw [HNL.out]; exact hlt)))
          have hs1 := HW.out k
          have hs2 := HW.out (k + 1)
          have hst := wsum_take (flat bs) k (by rw [HNL.out]; exact hlt)
          generalize (flat bs).getD k Rc.zero = S at *
          obtain ⟨_, _, _, _, b1, b2, b3, b4, b5, b6⟩ := hb
          have hm0 : 0 ≤ S.w * S.h := Int.mul_nonneg (by omega) (by omega)
          have hm1 : S.w * S.h ≤ 4398046511104 := by omega
          have HST := Lib.hid hst
          rw [hst] at hs2
          obtain ⟨pq, hpq⟩ : ∃ pq, S.w * S.h = pq := ⟨_, rfl⟩
          have km : IntKind.i64.wrap (S.w * S.h) = S.w * S.h := IntWalk.i64_in _ (by omega)
          have ka : IntKind.i64.wrap (wsum ((flat bs).take k) + S.w * S.h) = wsum ((flat bs).take k) + S.w * S.h := IntWalk.i64_in _ (by omega)
          have kk : IntKind.i64.wrap ((k : Int) + 1) = (k : Int) + 1 := IntWalk.i64_in _ (by omega)
          clear hc hst hpq
          go_wp2
          go_quiet (fail)
          go_wp2
          go_roundw
          case rel => exact ⟨k + 1, by omega, by simp, by rw [HST.out], _, rfl⟩
          case measure => simp [intOf]; omega
        · obtain rfl : nl = k := by omega
          have hend : (flat bs).take nl = flat bs := by rw [← HNL.out, List.take_length]
          rw [hend]
          clear hend
          have hs3 := HSUM.out
          obtain ⟨s, hs⟩ : ∃ s, wsum (flat bs) = s := ⟨_, rfl⟩
          rw [hs] at hs3 ⊢
          have HSS := Lib.hid hs
          clear hs
          obtain ⟨N, hN⟩ : ∃ N, (allCells bs).length = N := ⟨_, rfl⟩
          rw [hN] at hs3
          have HNN := Lib.hid hN
          clear hN
          have hs0 : 0 ≤ s := by omega
          by_cases hbig : 4096 < s
          · have hT : Hid (tilesR (flat bs) bs = []) := Lib.hid (by unfold tilesR; rw [HSS.out, if_pos hbig])
            go_wp2
            go_ret
            refine ⟨_, rfl, hn2.trans ⟨rfl, rfl, rfl, Nat.le_refl _, fun _ _ => rfl⟩, ?_⟩
            rw [hT.out]
            exact World.ownsRow_nil _ _ _ _
          · have hT : Hid (tilesR (flat bs) bs = allCells bs) := Lib.hid (by unfold tilesR; rw [HSS.out, if_neg hbig])
            have hd := decide_eq_false (p := 4096 < s) hbig
            have hN2 : N ≤ 4096 := by omega
            clear hbig hs3
            obtain ⟨i1, hi1, hz1', hzs1, hzb1⟩ := info_parts info29
            go_wp2
            go_loopw [9, 10] (fun out i W => ∃ (pre rest : List Band), bs = pre ++ rest ∧ i = .int .i64 ((flat pre).length : Int) ∧ W.ownsRow w2.heap.size 29 2 out (allCells pre).length (cellsP (allCells pre)) ∧ Below w2.heap.size w2 W) (fun _ i _ => (nl - (intOf i).toNat))
            case atStart => exact ⟨[], bs, rfl, rfl, World.ownsRow_nil _ _ _ _, ⟨rfl, rfl, rfl, Nat.le_refl _, fun _ _ => rfl⟩⟩
            case round =>
              obtain ⟨pre, rest, hbs, rfl, hown, hnx⟩ := hrel
              have HBP := Lib.hid hbs
              have hpl : nl = (flat pre).length + (flat rest).length := by rw [← HNL.out, hbs, flat_append, List.length_append]
              clear hbs
              cases rest with
              | nil =>
                have hT2 : Hid (tilesR (flat bs) bs = allCells pre) := Lib.hid (by rw [hT.out, HBP.out, List.append_nil])
                have hpl2 : (flat pre).length = nl := by rw [hpl]; simp [flat]
                rw [hpl2]
                clear hpl hpl2
                go_wp2
                go_ret
                refine ⟨_, rfl, hn2.trans (hnx.mono hw2), ?_⟩
                rw [hT2.out]
                exact hown.mono hw2
              | cons c rest =>
                have hok := HBS.out
                rw [HBP.out] at hok
                have hcok := hok.2 c (List.mem_append_right _ (List.mem_cons_self ..))
                have hpw := List.pairwise_append.1 hok.1
                have hth := (List.pairwise_cons.1 hpw.2.1).1
                have hrok : ∀ d ∈ rest, d.ok := fun d hd => hok.2 d (List.mem_append_right _ (List.mem_cons_of_mem _ hd))
                obtain ⟨P, hP⟩ : ∃ P, (flat pre).length = P := ⟨_, rfl⟩
                obtain ⟨M, hM⟩ : ∃ M, c.runs.length = M := ⟨_, rfl⟩
                have hM0 : 0 < M := by rw [← hM]; exact List.length_pos_iff.2 hcok.2.1
                rw [flat_cons, List.length_append, bflat_len2, hM, hP] at hpl
                obtain ⟨gl, rfl, hgl, hc⟩ := hcell2.out (by omega)
                have HCL : Hid (∀ t, t < M → ∀ W, Below w2.heap.size w2 W → W.cell? ⟨gl, (P + t) * 4, none⟩ = some (.int .i64 (c.runs.getD t (0, 0)).1) ∧ W.cell? ⟨gl, (P + t) * 4 + 1, none⟩ = some (.int .i64 c.y) ∧ W.cell? ⟨gl, (P + t) * 4 + 2, none⟩ = some (.int .i64 (c.runs.getD t (0, 0)).2) ∧ W.cell? ⟨gl, (P + t) * 4 + 3, none⟩ = some (.int .i64 c.h)) := Lib.hid (fun t ht W hW => by
                  obtain ⟨c0, c1, c2, c3⟩ := hc (P + t) (by omega)
                  have hg := at_row (pre := pre) (rest := rest) (c := c) t (by rw [hM]; exact ht)
                  rw [← HBP.out, hP] at hg
                  rw [hg] at c0 c1 c2 c3
                  exact ⟨(hW.cell (p := ⟨gl, (P + t) * 4, none⟩) hgl).trans c0, (hW.cell (p := ⟨gl, (P + t) * 4 + 1, none⟩) hgl).trans c1, (hW.cell (p := ⟨gl, (P + t) * 4 + 2, none⟩) hgl).trans c2, (hW.cell (p := ⟨gl, (P + t) * 4 + 3, none⟩) hgl).trans c3⟩)
                have HNX : Hid (P + M < nl → ∃ z, (z == c.y) = false ∧ ∀ W, Below w2.heap.size w2 W → W.cell? ⟨gl, (P + M) * 4 + 1, none⟩ = some (.int .i64 z)) := Lib.hid (fun h0 => by
                  obtain ⟨c0, c1, c2, c3⟩ := hc (P + M) h0
                  have hg := next_row (pre := pre) (rest := rest) (c := c) hcok hth hrok (by omega)
                  rw [← HBP.out, hP, hM] at hg
                  exact ⟨_, by simpa using hg, fun W hW => (hW.cell (p := ⟨gl, (P + M) * 4 + 1, none⟩) hgl).trans c1⟩)
                have HCN : Hid (∀ t, t < M → Rc.emp ⟨(c.runs.getD t (0, 0)).1, c.y, (c.runs.getD t (0, 0)).2, c.h⟩ = false) := Lib.hid (fun t ht => by
                  have hg := at_row (pre := pre) (rest := rest) (c := c) t (by rw [hM]; exact ht)
                  rw [← HBP.out, hP] at hg
                  rw [← hg]
                  exact HNE.out _ (getR_mem (by rw [HNL.out]; omega)))
                have HCY : Hid ((-1048576 ≤ c.y ∧ c.y ≤ 1048576) ∧ (1 ≤ c.h ∧ c.y + c.h ≤ 1048576)) := Lib.hid (by
                  have := ne_ways _ (HCN.out 0 hM0)
                  simp only at this
                  omega)
                have HCO := Lib.hid hcok
                have HP := Lib.hid hP
                have HM := Lib.hid hM
                have HOW := Lib.hid hown
                have hnlb : nl ≤ 1048576 := hlen
                obtain ⟨⟨y1, y2⟩, y3, y4⟩ := HCY.out
                have kcy : IntKind.i64.wrap (c.y + c.h) = c.y + c.h := IntWalk.i64_in _ (by omega)
                have hPn : (P : Int) < (nl : Int) := by omega
                have hPn2 : P < nl := by omega
                have hPM1 : P + M ≤ nl := by omega
                have hPnd := decide_eq_true hPn
                rw [hP]
                clear hok hcok hpw hth hrok hP hM hc hown hpl
                obtain ⟨wo, rfl⟩ : ∃ wo : World, wo = wr := ⟨_, rfl⟩
                go_wp2
                go_loopw [11] (fun kv W => ∃ t : Nat, t ≤ M ∧ kv = .int .i64 ((P : Int) + (t : Int)) ∧ ∃ q, W = wo.drewN q) (fun kv _ => (nl - (intOf kv).toNat))
                case atStart => exact ⟨0, Nat.zero_le _, by simp, 0, rfl⟩
                case round =>
                  obtain ⟨t, ht, rfl, q1, rfl⟩ := hrel
                  have ktt : ((P : Int) + (t : Int)).toNat = P + t := by omega
                  have ktp : (0 : Int) ≤ (P : Int) + (t : Int) := by omega
                  obtain ⟨p0, p1, p2, p3⟩ := HCL.out 0 hM0 wo hnx
                  simp only [Nat.add_zero] at p0 p1 p2 p3
                  by_cases htM : t < M
                  · obtain ⟨f0, f1, f2, f3⟩ := HCL.out t htM wo hnx
                    have hlt1 : (P : Int) + (t : Int) < (nl : Int) := by omega
                    have hlt2 : P + t < nl := by omega
                    have hltd := decide_eq_true hlt2
                    have hltd1 := decide_eq_true hlt1
                    have kt1 : IntKind.i64.wrap ((P : Int) + (t : Int) + 1) = (P : Int) + (t : Int) + 1 := IntWalk.i64_in _ (by omega)
                    clear p0 p2 p3 f0 f2 f3
                    go_wp2
                    go_quiet (fail)
                    go_wp2
                    go_roundw
                    case rel => exact ⟨t + 1, by omega, by simp; omega, _, rfl⟩
                    case measure => simp [intOf]; omega
                  · obtain rfl : M = t := by omega
                    by_cases hPM : P + M < nl
                    · obtain ⟨z, hz, hcz⟩ := HNX.out hPM
                      have f1 := hcz wo hnx
                      have hlt1 : (P : Int) + (M : Int) < (nl : Int) := by omega
                      have hltd := decide_eq_true hPM
                      have hltd1 := decide_eq_true hlt1
                      clear p0 p2 p3 hcz
                      go_wp2
                      go_quiet (fail)
                      go_wp2
                      go_loopw [9, 12] (fun out y W => ∃ k : Nat, (k : Int) ≤ c.h ∧ y = .int .i64 (c.y + (k : Int)) ∧ W.ownsRow w2.heap.size 29 2 out (allCells pre ++ rowsC c k).length (cellsP (allCells pre ++ rowsC c k)) ∧ Below w2.heap.size w2 W) (fun _ y _ => (c.y + c.h - intOf y).toNat)
                      case atStart => exact ⟨0, by have := HCO.out.1; omega, by simp, by rw [show rowsC c 0 = [] from rfl, List.append_nil]; exact ownsRow_below HOW.out ⟨rfl, rfl, rfl, Nat.le_refl _, fun _ _ => rfl⟩, hnx.trans ⟨rfl, rfl, rfl, Nat.le_refl _, fun _ _ => rfl⟩⟩
                      case round =>
                        clear hnx
                        obtain ⟨k, hk, rfl, hown, hnx⟩ := hrel
                        obtain ⟨e0, e1, e2, e3⟩ := HCL.out 0 hM0 wr hnx
                        simp only [Nat.add_zero] at e0 e1 e2 e3
                        by_cases hkh : (k : Int) < c.h
                        · have hkh2 : c.y + (k : Int) < c.y + c.h := by omega
                          go_wp2
                          go_quiet (fail)
                          go_wp2
                          obtain ⟨O1, hO1⟩ : ∃ O1, allCells pre ++ rowsC c k = O1 := ⟨_, rfl⟩
                          have HO1 := Lib.hid hO1
                          rw [hO1] at hown
                          clear hO1 e0 e1 e2 e3
                          obtain ⟨wy, rfl⟩ : ∃ wy : World, wy = wr := ⟨_, rfl⟩
                          go_loopw [9, 13] (fun out jv W => ∃ i' : Nat, i' ≤ M ∧ jv = .int .i64 ((P : Int) + (i' : Int)) ∧ W.ownsRow w2.heap.size 29 2 out (O1 ++ rowCells (c.runs.take i') (c.y + (k : Int))).length (cellsP (O1 ++ rowCells (c.runs.take i') (c.y + (k : Int)))) ∧ Below w2.heap.size w2 W) (fun _ jv _ => (P + M - (intOf jv).toNat))
                          case atStart => exact ⟨0, Nat.zero_le _, by simp, by rw [show rowCells (c.runs.take 0) (c.y + (k : Int)) = [] from rfl, List.append_nil]; exact ownsRow_below hown ⟨rfl, rfl, rfl, Nat.le_refl _, fun _ _ => rfl⟩, hnx.trans ⟨rfl, rfl, rfl, Nat.le_refl _, fun _ _ => rfl⟩⟩
                          case round =>
                            clear hown hnx
                            obtain ⟨i, hi', rfl, hown, hnx⟩ := hrel
                            have hkp : (0 : Int) ≤ (P : Int) + (i : Int) := by omega
                            by_cases hiM : i < M
                            · obtain ⟨f0, f1, f2, f3⟩ := HCL.out i hiM wr hnx
                              have hb := ne_ways _ (HCN.out i hiM)
                              have hroom := Lib.hid (fun (j : Nat) (hj : j < ((c.runs.getD i (0, 0))).2.toNat) => cells_room2 (pre := pre) (rest := rest) (c := c) (k := k) (i := i) (j := j) (by omega) (show i < c.runs.length by rw [HM.out]; exact hiM) hj)
                              have htk := rowCells_take2 c.runs (c.y + (k : Int)) i (by rw [HM.out]; exact hiM)
                              obtain ⟨r1, r2, hr⟩ : ∃ r1 r2, c.runs.getD i (0, 0) = (r1, r2) := ⟨_, _, rfl⟩
                              rw [hr] at f0 f2 hb hroom htk
                              rw [← HBP.out, HO1.out] at hroom
                              obtain ⟨O2, hO2⟩ : ∃ O2, O1 ++ rowCells (c.runs.take i) (c.y + (k : Int)) = O2 := ⟨_, rfl⟩
                              rw [hO2] at hown hroom
                              have htk2 : O1 ++ rowCells (c.runs.take (i + 1)) (c.y + (k : Int)) = O2 ++ runP (c.y + (k : Int)) (r1, r2) r2.toNat := by rw [htk, ← List.append_assoc, hO2]; rfl
                              have HTK := Lib.hid htk2
                              have HR := Lib.hid hr
                              simp only at f0 f2 hb hroom
                              obtain ⟨_, _, _, _, b1, b2, b3, b4, b5, b6⟩ := hb
                              have hkk2 : IntKind.i64.wrap (c.y + (k : Int)) = c.y + (k : Int) := IntWalk.i64_in _ (by omega)
                              have hpi : ((P : Int) + (i : Int)).toNat = P + i := by omega
                              have hpi2 : (P : Int) + (i : Int) < (nl : Int) := by omega
                              have hpi3 : (P : Int) + (i : Int) < (P : Int) + (M : Int) := by omega
                              have hiMi : (i : Int) < (M : Int) := by omega
                              have hks : IntKind.i64.wrap ((P : Int) + (i : Int) + 1) = (P : Int) + (i : Int) + 1 := IntWalk.i64_in _ (by omega)
                              have hwr : IntKind.i64.wrap (r1 + r2) = r1 + r2 := IntWalk.i64_in _ (by omega)
                              clear htk hO2 hr htk2
                              go_wp2
                              obtain ⟨wz, rfl⟩ : ∃ wz : World, wz = wr := ⟨_, rfl⟩
                              go_loopw [9, 14] (fun out xv W => ∃ j' : Nat, (j' : Int) ≤ r2 ∧ xv = .int .i64 (r1 + (j' : Int)) ∧ W.ownsRow w2.heap.size 29 2 out (O2 ++ runP (c.y + (k : Int)) (r1, r2) j').length (cellsP (O2 ++ runP (c.y + (k : Int)) (r1, r2) j')) ∧ Below w2.heap.size w2 W) (fun _ xv _ => (r1 + r2 - intOf xv).toNat)
                              case atStart => exact ⟨0, by omega, by simp, by rw [show runP (c.y + (k : Int)) (r1, r2) 0 = [] from rfl, List.append_nil]; exact hown, hnx⟩
                              case round =>
                                clear hown hnx f0 f1 f2 f3
                                obtain ⟨j, hj, rfl, hown, hnx⟩ := hrel
                                obtain ⟨f0, f1, f2, f3⟩ := HCL.out i hiM wr hnx
                                rw [HR.out] at f0 f2
                                simp only at f0 f2
                                by_cases hjr : (j : Int) < r2
                                · have hjr2 : r1 + (j : Int) < r1 + r2 := by omega
                                  have hrm := hroom.out j (by omega)
                                  have hps := runP_succ (c.y + (k : Int)) (r1, r2) j
                                  have e3 : O2 ++ runP (c.y + (k : Int)) (r1, r2) (j + 1) = (O2 ++ runP (c.y + (k : Int)) (r1, r2) j) ++ [(r1 + (j : Int), c.y + (k : Int))] := by rw [hps, ← List.append_assoc]
                                  have hrm2 : (O2 ++ runP (c.y + (k : Int)) (r1, r2) j).length + 1 ≤ N := by rw [← HNN.out]; exact hrm
                                  obtain ⟨O3, hO3⟩ : ∃ O3, O2 ++ runP (c.y + (k : Int)) (r1, r2) j = O3 := ⟨_, rfl⟩
                                  rw [hO3] at hown hrm2 e3
                                  have E3 := Lib.hid e3
                                  have kj1 : IntKind.i64.wrap (r1 + (j : Int) + 1) = r1 + (j : Int) + 1 := IntWalk.i64_in _ (by omega)
                                  clear hrm hps e3 hO3
                                  have hzT := hnx.size
                                  go_wp2
                                  go_quiet (fail)
                                  go_wp2_with (at_builtin; refine wpList_append_own _ rfl _ _ 35 rfl w2.heap.size 29 i1 (.agg #[.int .i64 0, .int .i64 0]) 2 16 Try.underlying35 hi1 hz1' hzs1 hzb1 rfl (by decide) _ _ _ rfl ((ownsRow_below hown ⟨rfl, rfl, rfl, Nat.le_refl _, fun _ _ => rfl⟩ : (wr.drewN _).ownsRow _ _ _ _ _ _).alloc _) ⟨wr.heap.size, 0, none⟩ 1 1 [.int .i64 (r1 + (j : Int)), .int .i64 (c.y + (k : Int))] rfl rfl ?c1 ?c2 ?c3 ?c4 ?c5 ?_)
                                  case c1 =>
                                    intro j u hj
                                    match j, hj with
                                    | 0, hj => simp at hj; subst hj; first | (simp [Addr.add]; done) | exact (World.cell?_alloc_at _ _ _ _ (by simp)).trans rfl
                                    | 1, hj => simp at hj; subst hj; first | (simp [Addr.add]; done) | exact (World.cell?_alloc_at _ _ _ _ (by simp)).trans rfl
                                  case c2 => intro u hu; simp at hu; rcases hu with rfl | rfl <;> rfl
                                  case c3 => unfold maxLen; omega
                                  case c4 => omega
                                  case c5 => simp; omega
                                  intro v' w5 hown' hgrow _
                                  have hnx5 : Below w2.heap.size w2 w5 := below_app hnx hnx.size hown hgrow (by first | exact (Below.refl _ _).alloc (Nat.le_refl _) _ | exact below_drewN ((Below.refl _ _).alloc (Nat.le_refl _) _) _ | exact Below.alloc (below_drewN (Below.refl _ _) _) (Nat.le_refl _) _)
                                  have hown5 : w5.ownsRow w2.heap.size 29 2 v' (O3 ++ [(r1 + (j : Int), c.y + (k : Int))]).length (cellsP (O3 ++ [(r1 + (j : Int), c.y + (k : Int))])) := by
                                    rw [cellsP_append, List.length_append]
                                    exact hown'
                                  rw [← E3.out] at hown5
                                  clear hgrow hown hown' hnx f0 f1 f2 f3
                                  go_wp2
                                  go_roundw
                                  case rel => exact ⟨j + 1, by omega, by simp; omega, hown5, hnx5⟩
                                  case measure => simp [intOf]; omega
                                · have hjq : j = r2.toNat := by omega
                                  rw [hjq] at hown
                                  rw [← HTK.out] at hown
                                  have hdj := decide_eq_false (p := r1 + (j : Int) < r1 + r2) (by omega)
                                  have hdj2 := decide_eq_false (p := (j : Int) < r2) hjr
                                  clear hjq
                                  go_wp2
                                  go_quiet (fail)
                                  go_wp2
                                  go_roundw
                                  case rel => exact ⟨i + 1, by omega, by simp; omega, ownsRow_below hown ⟨rfl, rfl, rfl, Nat.le_refl _, fun _ _ => rfl⟩, hnx.trans ⟨rfl, rfl, rfl, Nat.le_refl _, fun _ _ => rfl⟩⟩
                                  case measure => simp [intOf]; omega
                            · have hiq : i = M := by omega
                              have hrr : O1 ++ rowCells (c.runs.take i) (c.y + (k : Int)) = allCells pre ++ rowsC c (k + 1) := by
                                rw [hiq, ← HM.out, List.take_length, rowsC_succ, ← List.append_assoc, HO1.out]
                              rw [hrr] at hown
                              have hks : IntKind.i64.wrap (c.y + (k : Int) + 1) = c.y + (k : Int) + 1 := IntWalk.i64_in _ (by have := HCY.out; omega)
                              have hdi := decide_eq_false (p := (P : Int) + (i : Int) < (P : Int) + (M : Int)) (by omega)
                              have hdi2 := decide_eq_false (p := (i : Int) < (M : Int)) (by omega)
                              clear hrr hiq
                              go_wp2
                              go_roundw
                              case rel => exact ⟨k + 1, by omega, by simp; omega, hown, hnx⟩
                              case measure => simp [intOf]; omega
                        · have hkq : k = c.h.toNat := by omega
                          have hrr : allCells pre ++ rowsC c k = allCells (pre ++ [c]) := by rw [hkq, allCells_one]
                          rw [hrr] at hown
                          have hdk := decide_eq_false (p := c.y + (k : Int) < c.y + c.h) (by omega)
                          have hdk2 := decide_eq_false (p := (k : Int) < c.h) hkh
                          have HBP2 : Hid (bs = (pre ++ [c]) ++ rest) := Lib.hid (by rw [HBP.out, List.append_assoc]; rfl)
                          have HFL : Hid (((flat (pre ++ [c])).length : Int) = (P : Int) + (M : Int)) := Lib.hid (by rw [flat_append, List.length_append, HP.out, flat_cons, flat_nil, List.append_nil, bflat_len2, HM.out]; simp)
                          clear hrr hkq
                          go_wp2
                          go_quiet (fail)
                          go_wp2
                          go_roundw
                          case rel => exact ⟨pre ++ [c], rest, HBP2.out, by rw [HFL.out], ownsRow_below hown ⟨rfl, rfl, rfl, Nat.le_refl _, fun _ _ => rfl⟩, hnx.trans ⟨rfl, rfl, rfl, Nat.le_refl _, fun _ _ => rfl⟩⟩
                          case measure => simp [intOf]; omega
                    · have hd1 := decide_eq_false (p := (P : Int) + (M : Int) < (nl : Int)) (by omega)
                      have hd2 := decide_eq_false (p := P + M < nl) hPM
                      clear p0 p2 p3
                      go_wp2
                      go_quiet (fail)
                      go_wp2
                      go_loopw [9, 12] (fun out y W => ∃ k : Nat, (k : Int) ≤ c.h ∧ y = .int .i64 (c.y + (k : Int)) ∧ W.ownsRow w2.heap.size 29 2 out (allCells pre ++ rowsC c k).length (cellsP (allCells pre ++ rowsC c k)) ∧ Below w2.heap.size w2 W) (fun _ y _ => (c.y + c.h - intOf y).toNat)
                      case atStart => exact ⟨0, by have := HCO.out.1; omega, by simp, by rw [show rowsC c 0 = [] from rfl, List.append_nil]; exact ownsRow_below HOW.out ⟨rfl, rfl, rfl, Nat.le_refl _, fun _ _ => rfl⟩, hnx.trans ⟨rfl, rfl, rfl, Nat.le_refl _, fun _ _ => rfl⟩⟩
                      case round =>
                        clear hnx
                        obtain ⟨k, hk, rfl, hown, hnx⟩ := hrel
                        obtain ⟨e0, e1, e2, e3⟩ := HCL.out 0 hM0 wr hnx
                        simp only [Nat.add_zero] at e0 e1 e2 e3
                        by_cases hkh : (k : Int) < c.h
                        · have hkh2 : c.y + (k : Int) < c.y + c.h := by omega
                          go_wp2
                          go_quiet (fail)
                          go_wp2
                          obtain ⟨O1, hO1⟩ : ∃ O1, allCells pre ++ rowsC c k = O1 := ⟨_, rfl⟩
                          have HO1 := Lib.hid hO1
                          rw [hO1] at hown
                          clear hO1 e0 e1 e2 e3
                          obtain ⟨wy, rfl⟩ : ∃ wy : World, wy = wr := ⟨_, rfl⟩
                          go_loopw [9, 13] (fun out jv W => ∃ i' : Nat, i' ≤ M ∧ jv = .int .i64 ((P : Int) + (i' : Int)) ∧ W.ownsRow w2.heap.size 29 2 out (O1 ++ rowCells (c.runs.take i') (c.y + (k : Int))).length (cellsP (O1 ++ rowCells (c.runs.take i') (c.y + (k : Int)))) ∧ Below w2.heap.size w2 W) (fun _ jv _ => (P + M - (intOf jv).toNat))
                          case atStart => exact ⟨0, Nat.zero_le _, by simp, by rw [show rowCells (c.runs.take 0) (c.y + (k : Int)) = [] from rfl, List.append_nil]; exact ownsRow_below hown ⟨rfl, rfl, rfl, Nat.le_refl _, fun _ _ => rfl⟩, hnx.trans ⟨rfl, rfl, rfl, Nat.le_refl _, fun _ _ => rfl⟩⟩
                          case round =>
                            clear hown hnx
                            obtain ⟨i, hi', rfl, hown, hnx⟩ := hrel
                            have hkp : (0 : Int) ≤ (P : Int) + (i : Int) := by omega
                            by_cases hiM : i < M
                            · obtain ⟨f0, f1, f2, f3⟩ := HCL.out i hiM wr hnx
                              have hb := ne_ways _ (HCN.out i hiM)
                              have hroom := Lib.hid (fun (j : Nat) (hj : j < ((c.runs.getD i (0, 0))).2.toNat) => cells_room2 (pre := pre) (rest := rest) (c := c) (k := k) (i := i) (j := j) (by omega) (show i < c.runs.length by rw [HM.out]; exact hiM) hj)
                              have htk := rowCells_take2 c.runs (c.y + (k : Int)) i (by rw [HM.out]; exact hiM)
                              obtain ⟨r1, r2, hr⟩ : ∃ r1 r2, c.runs.getD i (0, 0) = (r1, r2) := ⟨_, _, rfl⟩
                              rw [hr] at f0 f2 hb hroom htk
                              rw [← HBP.out, HO1.out] at hroom
                              obtain ⟨O2, hO2⟩ : ∃ O2, O1 ++ rowCells (c.runs.take i) (c.y + (k : Int)) = O2 := ⟨_, rfl⟩
                              rw [hO2] at hown hroom
                              have htk2 : O1 ++ rowCells (c.runs.take (i + 1)) (c.y + (k : Int)) = O2 ++ runP (c.y + (k : Int)) (r1, r2) r2.toNat := by rw [htk, ← List.append_assoc, hO2]; rfl
                              have HTK := Lib.hid htk2
                              have HR := Lib.hid hr
                              simp only at f0 f2 hb hroom
                              obtain ⟨_, _, _, _, b1, b2, b3, b4, b5, b6⟩ := hb
                              have hkk2 : IntKind.i64.wrap (c.y + (k : Int)) = c.y + (k : Int) := IntWalk.i64_in _ (by omega)
                              have hpi : ((P : Int) + (i : Int)).toNat = P + i := by omega
                              have hpi2 : (P : Int) + (i : Int) < (nl : Int) := by omega
                              have hpi3 : (P : Int) + (i : Int) < (P : Int) + (M : Int) := by omega
                              have hiMi : (i : Int) < (M : Int) := by omega
                              have hks : IntKind.i64.wrap ((P : Int) + (i : Int) + 1) = (P : Int) + (i : Int) + 1 := IntWalk.i64_in _ (by omega)
                              have hwr : IntKind.i64.wrap (r1 + r2) = r1 + r2 := IntWalk.i64_in _ (by omega)
                              clear htk hO2 hr htk2
                              go_wp2
                              obtain ⟨wz, rfl⟩ : ∃ wz : World, wz = wr := ⟨_, rfl⟩
                              go_loopw [9, 14] (fun out xv W => ∃ j' : Nat, (j' : Int) ≤ r2 ∧ xv = .int .i64 (r1 + (j' : Int)) ∧ W.ownsRow w2.heap.size 29 2 out (O2 ++ runP (c.y + (k : Int)) (r1, r2) j').length (cellsP (O2 ++ runP (c.y + (k : Int)) (r1, r2) j')) ∧ Below w2.heap.size w2 W) (fun _ xv _ => (r1 + r2 - intOf xv).toNat)
                              case atStart => exact ⟨0, by omega, by simp, by rw [show runP (c.y + (k : Int)) (r1, r2) 0 = [] from rfl, List.append_nil]; exact hown, hnx⟩
                              case round =>
                                clear hown hnx f0 f1 f2 f3
                                obtain ⟨j, hj, rfl, hown, hnx⟩ := hrel
                                obtain ⟨f0, f1, f2, f3⟩ := HCL.out i hiM wr hnx
                                rw [HR.out] at f0 f2
                                simp only at f0 f2
                                by_cases hjr : (j : Int) < r2
                                · have hjr2 : r1 + (j : Int) < r1 + r2 := by omega
                                  have hrm := hroom.out j (by omega)
                                  have hps := runP_succ (c.y + (k : Int)) (r1, r2) j
                                  have e3 : O2 ++ runP (c.y + (k : Int)) (r1, r2) (j + 1) = (O2 ++ runP (c.y + (k : Int)) (r1, r2) j) ++ [(r1 + (j : Int), c.y + (k : Int))] := by rw [hps, ← List.append_assoc]
                                  have hrm2 : (O2 ++ runP (c.y + (k : Int)) (r1, r2) j).length + 1 ≤ N := by rw [← HNN.out]; exact hrm
                                  obtain ⟨O3, hO3⟩ : ∃ O3, O2 ++ runP (c.y + (k : Int)) (r1, r2) j = O3 := ⟨_, rfl⟩
                                  rw [hO3] at hown hrm2 e3
                                  have E3 := Lib.hid e3
                                  have kj1 : IntKind.i64.wrap (r1 + (j : Int) + 1) = r1 + (j : Int) + 1 := IntWalk.i64_in _ (by omega)
                                  clear hrm hps e3 hO3
                                  have hzT := hnx.size
                                  go_wp2
                                  go_quiet (fail)
                                  go_wp2_with (at_builtin; refine wpList_append_own _ rfl _ _ 35 rfl w2.heap.size 29 i1 (.agg #[.int .i64 0, .int .i64 0]) 2 16 Try.underlying35 hi1 hz1' hzs1 hzb1 rfl (by decide) _ _ _ rfl ((ownsRow_below hown ⟨rfl, rfl, rfl, Nat.le_refl _, fun _ _ => rfl⟩ : (wr.drewN _).ownsRow _ _ _ _ _ _).alloc _) ⟨wr.heap.size, 0, none⟩ 1 1 [.int .i64 (r1 + (j : Int)), .int .i64 (c.y + (k : Int))] rfl rfl ?c1 ?c2 ?c3 ?c4 ?c5 ?_)
                                  case c1 =>
                                    intro j u hj
                                    match j, hj with
                                    | 0, hj => simp at hj; subst hj; first | (simp [Addr.add]; done) | exact (World.cell?_alloc_at _ _ _ _ (by simp)).trans rfl
                                    | 1, hj => simp at hj; subst hj; first | (simp [Addr.add]; done) | exact (World.cell?_alloc_at _ _ _ _ (by simp)).trans rfl
                                  case c2 => intro u hu; simp at hu; rcases hu with rfl | rfl <;> rfl
                                  case c3 => unfold maxLen; omega
                                  case c4 => omega
                                  case c5 => simp; omega
                                  intro v' w5 hown' hgrow _
                                  have hnx5 : Below w2.heap.size w2 w5 := below_app hnx hnx.size hown hgrow (by first | exact (Below.refl _ _).alloc (Nat.le_refl _) _ | exact below_drewN ((Below.refl _ _).alloc (Nat.le_refl _) _) _ | exact Below.alloc (below_drewN (Below.refl _ _) _) (Nat.le_refl _) _)
                                  have hown5 : w5.ownsRow w2.heap.size 29 2 v' (O3 ++ [(r1 + (j : Int), c.y + (k : Int))]).length (cellsP (O3 ++ [(r1 + (j : Int), c.y + (k : Int))])) := by
                                    rw [cellsP_append, List.length_append]
                                    exact hown'
                                  rw [← E3.out] at hown5
                                  clear hgrow hown hown' hnx f0 f1 f2 f3
                                  go_wp2
                                  go_roundw
                                  case rel => exact ⟨j + 1, by omega, by simp; omega, hown5, hnx5⟩
                                  case measure => simp [intOf]; omega
                                · have hjq : j = r2.toNat := by omega
                                  rw [hjq] at hown
                                  rw [← HTK.out] at hown
                                  have hdj := decide_eq_false (p := r1 + (j : Int) < r1 + r2) (by omega)
                                  have hdj2 := decide_eq_false (p := (j : Int) < r2) hjr
                                  clear hjq
                                  go_wp2
                                  go_quiet (fail)
                                  go_wp2
                                  go_roundw
                                  case rel => exact ⟨i + 1, by omega, by simp; omega, ownsRow_below hown ⟨rfl, rfl, rfl, Nat.le_refl _, fun _ _ => rfl⟩, hnx.trans ⟨rfl, rfl, rfl, Nat.le_refl _, fun _ _ => rfl⟩⟩
                                  case measure => simp [intOf]; omega
                            · have hiq : i = M := by omega
                              have hrr : O1 ++ rowCells (c.runs.take i) (c.y + (k : Int)) = allCells pre ++ rowsC c (k + 1) := by
                                rw [hiq, ← HM.out, List.take_length, rowsC_succ, ← List.append_assoc, HO1.out]
                              rw [hrr] at hown
                              have hks : IntKind.i64.wrap (c.y + (k : Int) + 1) = c.y + (k : Int) + 1 := IntWalk.i64_in _ (by have := HCY.out; omega)
                              have hdi := decide_eq_false (p := (P : Int) + (i : Int) < (P : Int) + (M : Int)) (by omega)
                              have hdi2 := decide_eq_false (p := (i : Int) < (M : Int)) (by omega)
                              clear hrr hiq
                              go_wp2
                              go_roundw
                              case rel => exact ⟨k + 1, by omega, by simp; omega, hown, hnx⟩
                              case measure => simp [intOf]; omega
                        · have hkq : k = c.h.toNat := by omega
                          have hrr : allCells pre ++ rowsC c k = allCells (pre ++ [c]) := by rw [hkq, allCells_one]
                          rw [hrr] at hown
                          have hdk := decide_eq_false (p := c.y + (k : Int) < c.y + c.h) (by omega)
                          have hdk2 := decide_eq_false (p := (k : Int) < c.h) hkh
                          have HBP2 : Hid (bs = (pre ++ [c]) ++ rest) := Lib.hid (by rw [HBP.out, List.append_assoc]; rfl)
                          have HFL : Hid (((flat (pre ++ [c])).length : Int) = (P : Int) + (M : Int)) := Lib.hid (by rw [flat_append, List.length_append, HP.out, flat_cons, flat_nil, List.append_nil, bflat_len2, HM.out]; simp)
                          clear hrr hkq
                          go_wp2
                          go_quiet (fail)
                          go_wp2
                          go_roundw
                          case rel => exact ⟨pre ++ [c], rest, HBP2.out, by rw [HFL.out], ownsRow_below hown ⟨rfl, rfl, rfl, Nat.le_refl _, fun _ _ => rfl⟩, hnx.trans ⟨rfl, rfl, rfl, Nat.le_refl _, fun _ _ => rfl⟩⟩
                          case measure => simp [intOf]; omega

end Go.Proofs.Ythknkgblddoapaa
