import Derived.Test.YtmafmpgpaioniaaProg
import Derived.WalkKit
import Derived.WalkLawsBesides
import Derived.Outline
import Derived.Lib.Walk
import Derived.Deep.QuietTactic
import Derived.BigQuiet
import Derived.RowKit3
import Derived.Deep.LoopGhost
import Derived.Laws.Rows
import Derived.Laws.Tables
import Derived.Laws.CopyOwn
import Derived.Lib.Hide
import Derived.Handy
import Derived.Deep.Onto
import Derived.IntWalk
import Derived.Deep.WholeRow
import Derived.Laws.ResultCell
import Derived.Deep.RegionHeld3
import Derived.Deep.MidRow
import Derived.Test.YtmafmpgpaioniaaA3
import Derived.Test.YtmafmpgpaioniaaC11
import Derived.Test.YtmafmpgpaioniaaQC
namespace Go.Proofs.Ytmafmpgpaioniaa
open Go.RowKit
set_option maxHeartbeats 400000
set_option linter.unusedVariables false

def lst (n : Nat) (f : Nat → Int) : List Value := (List.range n).map fun j => Value.int .i64 (f j)
theorem Has.range {W : World} {g n : Nat} {t : TypeId} {f : Nat → Int} (h : Has W g n t f) : W.rangeAt g 0 (lst n f) := by
  intro j v hv
  have hj : j < n := by
    have := List.getElem?_eq_some_iff.1 hv
    simpa [lst] using this.1
  rw [Nat.zero_add, h.cell hj]
  simpa [lst, hj] using hv
abbrev SM (w : World) (g0 g1 g2 g3 n : Nat) (a b y F : Nat → Int) (la lb : List Value) (x : Int) (W : World) : Prop :=
  S4 w g0 g1 g2 g3 9 22 a 9 22 b 9 22 y 9 22 (part n F) W ∧ W.rangeAt g0 0 la ∧ W.rangeAt g1 0 lb ∧ W.cell? ⟨g3, n, none⟩ = some (.int .i64 x) ∧ W.frozen? ⟨g3, n, none⟩ = false
theorem SM.of {w : World} {g0 g1 g2 g3 n : Nat} {a b y F : Nat → Int} {la lb : List Value} {x : Int} {W : World} (hla : lst 9 a = la) (hlb : lst 9 b = lb) (hn : n < 9) (hx : part n F n = x) (h : S4 w g0 g1 g2 g3 9 22 a 9 22 b 9 22 y 9 22 (part n F) W) : SM w g0 g1 g2 g3 n a b y F la lb x W := by
  have c := h.2.2.2.2.cell hn
  rw [hx] at c
  subst hla hlb
  exact ⟨h, h.2.1.range, h.2.2.1.range, c, h.2.2.2.2.frozen n⟩
theorem SM.tr {w : World} {g0 g1 g2 g3 n : Nat} {a b y F : Nat → Int} {la lb : List Value} {x : Int} {W W' : World} (hla : lst 9 a = la) (hlb : lst 9 b = lb) (hn : n < 9) (hx : part n F n = x) (h : SM w g0 g1 g2 g3 n a b y F la lb x W) (hb : Below W.heap.size W W') : SM w g0 g1 g2 g3 n a b y F la lb x W' := SM.of hla hlb hn hx (h.1.keep hb)
theorem lst_len (n : Nat) (f : Nat → Int) : (lst n f).length = n := by simp [lst]
theorem info_lst (f : Nat → Int) {l : List Value} (h : lst 9 f = l) : (Try.prog.info? 22).map (·.size) = some l.length := by
  rw [← h, lst_len, row22 f, arr_size]

set_option maxHeartbeats 8000000 in
set_option maxRecDepth 100000 in
theorem c13 (a b : Nat → Int) (w : World) :
    Calls Try.prog 13 #[.agg (arr 9 a), .agg (arr 9 b)] w fun e w' => e = .returned (.agg (arr 9 (mulM a b))) ∧ Below w.heap.size w w' := by
  obtain ⟨F, hF⟩ : ∃ F, mulF a b = F := ⟨_, rfl⟩
  have HT := Lib.hid (fun i j hi hj => @mul_at a b i j hi hj)
  rw [hF] at HT
  have hM : mulM a b = if okM a = true ∧ okM b = true then F else part 0 F := by unfold mulM; rw [hF, part_zero]
  rw [hM]
  clear hM hF
  have CA := Lib.hid (show ∀ W : World, Calls Try.prog 11 #[.agg #[.int .i64 (a 0), .int .i64 (a 1), .int .i64 (a 2), .int .i64 (a 3), .int .i64 (a 4), .int .i64 (a 5), .int .i64 (a 6), .int .i64 (a 7), .int .i64 (a 8)]] W fun e w' => e = .returned (.int .i64 (ckM a)) ∧ Below W.heap.size W w' from fun W => c11 a W)
  have CB := Lib.hid (show ∀ W : World, Calls Try.prog 11 #[.agg #[.int .i64 (b 0), .int .i64 (b 1), .int .i64 (b 2), .int .i64 (b 3), .int .i64 (b 4), .int .i64 (b 5), .int .i64 (b 6), .int .i64 (b 7), .int .i64 (b 8)]] W fun e w' => e = .returned (.int .i64 (ckM b)) ∧ Below W.heap.size W w' from fun W => c11 b W)
  have HS := Lib.hid (S4.new w 9 9 9 9 22 22 22 22 a b (part 0 F) (part 0 F))
  obtain ⟨g0, e0⟩ : ∃ g, g = w.heap.size := ⟨_, rfl⟩
  obtain ⟨g1, e1⟩ : ∃ g, g = w.heap.size + 1 := ⟨_, rfl⟩
  obtain ⟨g2, e2⟩ : ∃ g, g = w.heap.size + 1 + 1 := ⟨_, rfl⟩
  obtain ⟨g3, e3⟩ : ∃ g, g = w.heap.size + 1 + 1 + 1 := ⟨_, rfl⟩
  have HG := Lib.hid (show g0 ≠ g3 ∧ g1 ≠ g3 ∧ g2 ≠ g3 ∧ w.heap.size ≤ g3 ∧ w.heap.size ≤ g2 by omega)
  rw [← e3, ← e2, ← e1, ← e0, ← arr9 a, ← arr9 b] at HS
  obtain ⟨y, hy⟩ : ∃ y, part 0 F = y := ⟨_, rfl⟩
  have HY := Lib.hid hy
  rw [← arr9 a, ← arr9 b]
  rcases @ckM_eq a with ⟨ea, oa⟩ | ⟨ea, oa⟩
  · rcases @ckM_eq b with ⟨eb, ob⟩ | ⟨eb, ob⟩
    · rw [if_pos ⟨oa, ob⟩]
      have RA := Lib.hid (okM_at oa)
      have RB := Lib.hid (okM_at ob)
      rw [ea] at CA
      rw [eb] at CB
      clear ea eb oa ob
      go_enter Try.func13, Try.ntmps13
      go_wp2_with (go_at_call 11; fail)
      rw [zeros9 F]
      generalize (((w.alloc (.cells #[.int .i64 (a 0), .int .i64 (a 1), .int .i64 (a 2), .int .i64 (a 3), .int .i64 (a 4), .int .i64 (a 5), .int .i64 (a 6), .int .i64 (a 7), .int .i64 (a 8)] 22)).alloc (.cells #[.int .i64 (b 0), .int .i64 (b 1), .int .i64 (b 2), .int .i64 (b 3), .int .i64 (b 4), .int .i64 (b 5), .int .i64 (b 6), .int .i64 (b 7), .int .i64 (b 8)] 22)).alloc (.cells (arr 9 (part 0 F)) 22)).alloc (.cells (arr 9 (part 0 F)) 22) = V at *
      rw [← e3, ← e2, ← e1, ← e0]
      rw [hy] at HS
      clear e0 e1 e2 e3 hy
      (with_reducible refine (CA.out _).mono ?_)
      rintro e1 w1 ⟨rfl, hb1⟩
      have HS1 := Lib.hid (HS.out.keep hb1)
      clear hb1 HS CA
      obtain ⟨b0, b1, b2, b3, b4, b5, b6, b7, b8⟩ := HS1.out.2.2.1.cells9
      go_wp2_with (go_at_call 11; fail)
      (with_reducible refine (CB.out _).mono ?_)
      rintro e2 w2 ⟨rfl, hb2⟩
      have HS := Lib.hid (HS1.out.keep hb2)
      clear hb2 HS1 CB b0 b1 b2 b3 b4 b5 b6 b7 b8
      go_wp2_with fail
      go_loopw [17] (fun ii W => ∃ i : Nat, ii = .int .i64 (i : Int) ∧ i ≤ 3 ∧ Hid (S4 w g0 g1 g2 g3 9 22 a 9 22 b 9 22 y 9 22 (part (3 * i) F) W)) (fun ii _ => (3 - (intOf ii).toNat))
      case atStart => exact ⟨0, rfl, by omega, Lib.hid (show S4 w g0 g1 g2 g3 9 22 a 9 22 b 9 22 y 9 22 (part 0 F) w2 by rw [HY.out]; exact HS.out)⟩
      case round =>
        obtain ⟨i, rfl, hi, hs⟩ := hrel
        clear HS
        by_cases hlt : i < 3
        · have ki : IntKind.i64.wrap ((i : Int) + 1) = (i : Int) + 1 := IntWalk.i64_in _ (by omega)
          have i3 : (i : Int) < 3 := by omega
          go_wp2
          go_loopw [20] (fun jj W => ∃ j : Nat, jj = .int .i64 (j : Int) ∧ j ≤ 3 ∧ Hid (S4 w g0 g1 g2 g3 9 22 a 9 22 b 9 22 y 9 22 (part (3 * i + j) F) W)) (fun jj _ => (3 - (intOf jj).toNat))
          case atStart => exact ⟨0, rfl, by omega, hs⟩
          case round =>
            obtain ⟨j, rfl, hj, ht⟩ := hrel
            clear hs
            by_cases hlj : j < 3
            · obtain ⟨n, hn⟩ : ∃ n, n = 3 * i + j := ⟨_, rfl⟩
              obtain ⟨p0, hp0⟩ : ∃ p, p = 3 * i := ⟨_, rfl⟩
              have f0 : IntKind.i64.wrap (3 * (i : Int)) = (p0 : Int) := by rw [IntWalk.i64_in _ (by omega)]; omega
              have f3 : IntKind.i64.wrap ((p0 : Int) + (j : Int)) = (n : Int) := by rw [IntWalk.i64_in _ (by omega)]; omega
              have n9 : (n : Int) < 9 := by omega
              have n9' : n < 9 := by omega
              have j3 : (j : Int) < 3 := by omega
              have kj : IntKind.i64.wrap ((j : Int) + 1) = (j : Int) + 1 := IntWalk.i64_in _ (by omega)
              have hx := HT.out i j hlt hlj
              rw [← hn] at hx ht
              have pr : ∀ k, k < 3 → -2305843009213693952 ≤ rowF a i k * colF b j k ∧ rowF a i k * colF b j k ≤ 2305843009213693952 := fun k hk => by
                have r1 := RA.out (3 * i + k) (by omega)
                have r2 := RB.out (3 * k + j) (by omega)
                have := prod_in r1 ⟨by omega, by omega⟩ (y := b (3 * k + j))
                unfold rowF colF
                omega
              have CT := Lib.hid (fun W => c25 (rowF a i) (colF b j) W (pr 0 (by omega)) (pr 1 (by omega)) (pr 2 (by omega)))
              obtain ⟨la, hla⟩ : ∃ l, lst 9 a = l := ⟨_, rfl⟩
              obtain ⟨lb, hlb⟩ : ∃ l, lst 9 b = l := ⟨_, rfl⟩
              have ia := info_lst a hla
              have ib := info_lst b hlb
              have CR := Lib.hid (show ∀ W : World, Calls Try.prog 26 #[.agg la.toArray, .int .i64 (i : Int)] W fun e w' => e = .returned (.agg (arr 3 (rowF a i))) ∧ Below W.heap.size W w' from fun W => hla ▸ c26 a i hlt W)
              have CC' := Lib.hid (show ∀ W : World, Calls Try.prog 27 #[.agg lb.toArray, .int .i64 (j : Int)] W fun e w' => e = .returned (.agg (arr 3 (colF b j))) ∧ Below W.heap.size W w' from fun W => hlb ▸ c27 b j hlj W)
              obtain ⟨d, hd⟩ : ∃ d, dvi (dot (rowF a i) (colF b j)) 65536 = d := ⟨_, rfl⟩
              rw [hd] at hx CT
              clear hd pr RA RB HT
              generalize arr 3 (rowF a i) = rr at *
              generalize arr 3 (colF b j) = cc at *
              have hij := Lib.hid (show n + 1 = 3 * i + (j + 1) by omega)
              have HG' := HG.out
              obtain ⟨x, hxx⟩ : ∃ x, part n F n = x := ⟨_, rfl⟩
              have HTR := Lib.hid (fun W W' h hb => @SM.tr w g0 g1 g2 g3 n a b y F la lb x W W' hla hlb n9' hxx h hb)
              have hS0 := Lib.hid (SM.of hla hlb n9' hxx ht.out)
              have HN := Lib.hid (fun (W : World) (hW : SM w g0 g1 g2 g3 n a b y F la lb x W) (z : Int) (hx : F n = z) => hW.1.part3 HG'.1 HG'.2.1 HG'.2.2.1 HG'.2.2.2.1 hx)
              have HX := Lib.hid hx
              clear hn hp0 ht HG' hx hxx hla hlb
              have hC0 := HTR.out _ _ hS0.out (bel_drewN 1)
              obtain ⟨CC, hCC⟩ : ∃ CC : World → Prop, CC = fun W => SM w g0 g1 g2 g3 n a b y F la lb x W := ⟨_, rfl⟩
              have HC0 : CC wr.drew := by rw [hCC]; exact hC0
              have HA := (show ∀ W, CC W → W.rangeAt g0 0 la from fun W h => by rw [hCC] at h; exact h.2.1)
              have HB := (show ∀ W, CC W → W.rangeAt g1 0 lb from fun W h => by rw [hCC] at h; exact h.2.2.1)
              have IA := Lib.hid ia
              have IB := Lib.hid ib
              have H26 := (show ∀ W, CC W → Calls Try.prog 26 #[.agg la.toArray, .int .i64 (i : Int)] W fun e w' => e = .returned (.agg rr) ∧ CC w' from fun W h => (CR.out W).mono fun e w' hh => ⟨hh.1, by rw [hCC] at h ⊢; exact HTR.out _ _ h hh.2⟩)
              have H27 := (show ∀ W, CC W → Calls Try.prog 27 #[.agg lb.toArray, .int .i64 (j : Int)] W fun e w' => e = .returned (.agg cc) ∧ CC w' from fun W h => (CC'.out W).mono fun e w' hh => ⟨hh.1, by rw [hCC] at h ⊢; exact HTR.out _ _ h hh.2⟩)
              have H25 := (show ∀ W, CC W → Calls Try.prog 25 #[.agg rr, .agg cc] W fun e w' => e = .returned (.int .i64 d) ∧ CC w' from fun W h => (CT.out W).mono fun e w' hh => ⟨hh.1, by rw [hCC] at h ⊢; exact HTR.out _ _ h hh.2⟩)
              have HE := (show ∀ W, CC W → W.cell? ⟨g3, n, none⟩ = some (.int .i64 x) ∧ W.frozen? ⟨g3, n, none⟩ = false ∧ S4 w g0 g1 g2 g3 9 22 a 9 22 b 9 22 y 9 22 (part (n + 1) F) (W.setCell ⟨g3, n, none⟩ (.int .i64 d)) from fun W h => by
                rw [hCC] at h
                exact ⟨h.2.2.2.1, h.2.2.2.2, HN.out W h d HX.out⟩)
              clear hC0 hS0 hCC CR CC' CT HTR HN HX ia ib
              obtain ⟨D, emb, hne, HC0, HA, HB, H26, H27, H25, HE⟩ : ∃ (D : Type) (emb : D → World), Nonempty D ∧ (∃ q, wr.drew = emb q) ∧ Hid (∀ W, (∃ q, W = emb q) → W.rangeAt g0 0 la) ∧ Hid (∀ W, (∃ q, W = emb q) → W.rangeAt g1 0 lb) ∧
                  Hid (∀ q, Calls Try.prog 26 #[.agg la.toArray, .int .i64 (i : Int)] (emb q) fun e w' => e = .returned (.agg rr) ∧ ∃ q', w' = emb q') ∧
                  Hid (∀ q, Calls Try.prog 27 #[.agg lb.toArray, .int .i64 (j : Int)] (emb q) fun e w' => e = .returned (.agg cc) ∧ ∃ q', w' = emb q') ∧
                  Hid (∀ q, Calls Try.prog 25 #[.agg rr, .agg cc] (emb q) fun e w' => e = .returned (.int .i64 d) ∧ ∃ q', w' = emb q') ∧
                  Hid (∀ q, (emb q).cell? ⟨g3, n, none⟩ = some (.int .i64 x) ∧ (emb q).frozen? ⟨g3, n, none⟩ = false ∧ S4 w g0 g1 g2 g3 9 22 a 9 22 b 9 22 y 9 22 (part (n + 1) F) ((emb q).setCell ⟨g3, n, none⟩ (.int .i64 d))) :=
                ⟨{W // CC W}, Subtype.val, ⟨⟨_, HC0⟩⟩, ⟨⟨_, HC0⟩, rfl⟩, Lib.hid (fun W ⟨q, h⟩ => h ▸ HA q.1 q.2), Lib.hid (fun W ⟨q, h⟩ => h ▸ HB q.1 q.2), Lib.hid fun q => (H26 q.1 q.2).mono fun e w' h => ⟨h.1, ⟨w', h.2⟩, rfl⟩, Lib.hid fun q => (H27 q.1 q.2).mono fun e w' h => ⟨h.1, ⟨w', h.2⟩, rfl⟩, Lib.hid fun q => (H25 q.1 q.2).mono fun e w' h => ⟨h.1, ⟨w', h.2⟩, rfl⟩, Lib.hid fun q => HE q.1 q.2⟩
              go_wp2_with fail
              refine wp_region_quiet_tailC (fun W => ∃ q, W = emb q) HC0 12 (by kernel_rfl) (by kernel_rfl) ?_
              simp only [List.take_succ_cons, List.take_zero, List.drop_succ_cons, List.drop_zero]
              iterate 4 (quiet_step (fail))
              refine BigFrame.wpQuiet_want (by rfl) (fun K hK => quiet_load_mid 22 (.tmp 2) rfl g0 0 rfl la _ HA.out Try.underlying22 rfl IA.out (hK _ ?_))
              simp only [Act.put, List.setIfInBounds_toArray, List.set_cons_zero, List.set_cons_succ]
              clear hK K
              iterate 2 (quiet_step (first | (go_at_call 26; exact H26.out _)))
              refine BigFrame.wpQuiet_want (by rfl) (fun K hK => quiet_load_mid 22 (.tmp 3) rfl g1 0 rfl lb _ HB.out Try.underlying22 rfl IB.out (hK _ ?_))
              simp only [Act.put, List.setIfInBounds_toArray, List.set_cons_zero, List.set_cons_succ]
              clear hK K
              repeat (quiet_step (first | (go_at_call 26; exact H26.out _) | (go_at_call 27; exact H27.out _) | (go_at_call 25; exact H25.out _)))
              refine wpQuiet_nil ?_
              intro _ hw'
              obtain ⟨q, hw''⟩ := hw'
              subst hw''
              obtain ⟨k1, k2, k3⟩ := HE.out q
              have K3 := Lib.hid k3
              clear k3 HE H25 H26 H27 HA HB
              go_wp2
              go_roundw
              case rel => exact ⟨j + 1, by simp, by omega, by rw [← hij.out]; exact Lib.hid K3.out⟩
              case measure => simp [intOf]; omega
            · obtain rfl : j = 3 := by omega
              have hs := Lib.hid (show S4 w g0 g1 g2 g3 9 22 a 9 22 b 9 22 y 9 22 (part (3 * (i + 1)) F) wr by rw [show 3 * (i + 1) = 3 * i + 3 by omega]; exact ht.out)
              clear ht hlj hj
              go_wp2_with fail
              go_roundw
              case rel => exact ⟨i + 1, by simp, by omega, hs⟩
              case measure => simp [intOf]; omega
        · obtain rfl : i = 3 := by omega
          have h3 := hs.out.2.2.2.2.full9
          have h2 := hs.out.2.2.2.1
          obtain ⟨a0, a1, a2, a3, a4, a5, a6, a7, a8⟩ := h3.cells9
          obtain ⟨b0, b1, b2, b3, b4, b5, b6, b7, b8⟩ := h2.cells9
          obtain ⟨d0, d1, d2, d3, d4, d5, d6, d7, d8⟩ := h2.froz9
          have hR := Lib.hid (h2.set9 F)
          have hB := Lib.hid (bel_set9 hs.out.1 HG.out.2.2.2.2 F)
          clear h2 h3 hlt hi hs HT RA RB
          go_wp2
          exact bodyPost_ret (v := .agg (arr 9 F)) (results_cell_row rfl _ _ g2 22 (arr 9 F) (0, 0) _ rfl hR.out Try.underlying22 rfl (row22 F)) rfl ⟨rfl, hB.out⟩
    · rw [if_neg (by rw [ob]; simp), hy]
      rw [ea] at CA
      rw [eb] at CB
      clear ea eb oa ob HT
      go_enter Try.func13, Try.ntmps13
      go_wp2_with (go_at_call 11; fail)
      rw [zeros9 F]
      generalize (((w.alloc (.cells #[.int .i64 (a 0), .int .i64 (a 1), .int .i64 (a 2), .int .i64 (a 3), .int .i64 (a 4), .int .i64 (a 5), .int .i64 (a 6), .int .i64 (a 7), .int .i64 (a 8)] 22)).alloc (.cells #[.int .i64 (b 0), .int .i64 (b 1), .int .i64 (b 2), .int .i64 (b 3), .int .i64 (b 4), .int .i64 (b 5), .int .i64 (b 6), .int .i64 (b 7), .int .i64 (b 8)] 22)).alloc (.cells (arr 9 (part 0 F)) 22)).alloc (.cells (arr 9 (part 0 F)) 22) = V at *
      rw [← e3, ← e2, ← e1, ← e0]
      rw [hy] at HS
      clear e0 e1 e2 e3 hy
      (with_reducible refine (CA.out _).mono ?_)
      rintro e1 w1 ⟨rfl, hb1⟩
      have HS1 := Lib.hid (HS.out.keep hb1)
      clear hb1 HS CA
      obtain ⟨b0, b1, b2, b3, b4, b5, b6, b7, b8⟩ := HS1.out.2.2.1.cells9
      go_wp2_with (go_at_call 11; fail)
      (with_reducible refine (CB.out _).mono ?_)
      rintro e2 w3 ⟨rfl, hb2⟩
      have HS := Lib.hid (HS1.out.keep hb2)
      clear hb2 HS1 CB b0 b1 b2 b3 b4 b5 b6 b7 b8
      have h3 := HS.out.2.2.2.2
      have h2 := HS.out.2.2.2.1
      obtain ⟨a0, a1, a2, a3, a4, a5, a6, a7, a8⟩ := h3.cells9
      obtain ⟨b0, b1, b2, b3, b4, b5, b6, b7, b8⟩ := h2.cells9
      obtain ⟨d0, d1, d2, d3, d4, d5, d6, d7, d8⟩ := h2.froz9
      have hR := Lib.hid (h2.set9 y)
      have hB := Lib.hid (bel_set9 HS.out.1 HG.out.2.2.2.2 y)
      clear h2 h3 
      go_wp2
      exact bodyPost_ret (v := .agg (arr 9 y)) (results_cell_row rfl _ _ g2 22 (arr 9 y) (0, 0) _ rfl hR.out Try.underlying22 rfl (row22 y)) rfl ⟨rfl, hB.out⟩
  · rw [if_neg (by rw [oa]; simp), hy]
    rw [ea] at CA
    clear ea oa CB HT
    go_enter Try.func13, Try.ntmps13
    go_wp2_with (go_at_call 11; fail)
    rw [zeros9 F]
    generalize (((w.alloc (.cells #[.int .i64 (a 0), .int .i64 (a 1), .int .i64 (a 2), .int .i64 (a 3), .int .i64 (a 4), .int .i64 (a 5), .int .i64 (a 6), .int .i64 (a 7), .int .i64 (a 8)] 22)).alloc (.cells #[.int .i64 (b 0), .int .i64 (b 1), .int .i64 (b 2), .int .i64 (b 3), .int .i64 (b 4), .int .i64 (b 5), .int .i64 (b 6), .int .i64 (b 7), .int .i64 (b 8)] 22)).alloc (.cells (arr 9 (part 0 F)) 22)).alloc (.cells (arr 9 (part 0 F)) 22) = V at *
    rw [← e3, ← e2, ← e1, ← e0]
    rw [hy] at HS
    clear e0 e1 e2 e3 hy
    (with_reducible refine (CA.out _).mono ?_)
    rintro e1 w1 ⟨rfl, hb1⟩
    replace HS := Lib.hid (HS.out.keep hb1)
    clear hb1 CA
    have h3 := HS.out.2.2.2.2
    have h2 := HS.out.2.2.2.1
    obtain ⟨a0, a1, a2, a3, a4, a5, a6, a7, a8⟩ := h3.cells9
    obtain ⟨b0, b1, b2, b3, b4, b5, b6, b7, b8⟩ := h2.cells9
    obtain ⟨d0, d1, d2, d3, d4, d5, d6, d7, d8⟩ := h2.froz9
    have hR := Lib.hid (h2.set9 y)
    have hB := Lib.hid (bel_set9 HS.out.1 HG.out.2.2.2.2 y)
    clear h2 h3 
    go_wp2
    exact bodyPost_ret (v := .agg (arr 9 y)) (results_cell_row rfl _ _ g2 22 (arr 9 y) (0, 0) _ rfl hR.out Try.underlying22 rfl (row22 y)) rfl ⟨rfl, hB.out⟩

end Go.Proofs.Ytmafmpgpaioniaa
