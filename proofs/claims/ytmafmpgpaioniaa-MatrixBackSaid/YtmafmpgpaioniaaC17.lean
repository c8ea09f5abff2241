import Derived.Test.YtmafmpgpaioniaaProg
import Derived.WalkKit
import Derived.WalkLawsBesides
import Derived.Outline
import Derived.Lib.Walk
import Derived.Deep.QuietTactic
import Derived.BigQuiet
import Derived.RowKit3
import Derived.Deep.LoopGhost
import Derived.Laws.Rows
import Derived.Laws.Tables
import Derived.Laws.CopyOwn
import Derived.Lib.Hide
import Derived.Handy
import Derived.Deep.Onto
import Derived.IntWalk
import Derived.Deep.WholeRow
import Derived.Laws.ResultCell
import Derived.Test.YtmafmpgpaioniaaP2
import Derived.Test.YtmafmpgpaioniaaC13
namespace Go.Proofs.Ytmafmpgpaioniaa
open Go.RowKit
set_option maxHeartbeats 400000
set_option linter.unusedVariables false

/-- the first k numbers of F, and G's behind them. -/
def mix (k : Nat) (F G : Nat → Int) : Nat → Int := fun j => if j < k then F j else G j
theorem mix_upd (k : Nat) (F G : Nat → Int) : upd (mix k F G) k (F k) = mix (k + 1) F G := by
  funext j
  unfold upd mix
  by_cases h : j = k
  · subst h; simp
  · rw [if_neg h]
    by_cases h1 : j < k
    · rw [if_pos h1, if_pos (by omega)]
    · rw [if_neg h1, if_neg (by omega)]
theorem mix_zero (F G : Nat → Int) : mix 0 F G = G := by funext j; simp [mix]
theorem Has.mixed {W : World} {g n : Nat} {t : TypeId} {F G : Nat → Int} (h : Has W g n t (mix n F G)) : Has W g n t F := by
  unfold Has at *
  rw [show arr n (mix n F G) = arr n F from arr_ext fun j hj => by simp [mix, hj]] at h
  exact h
theorem S4.mix1 {w W : World} {g0 g1 g2 g3 n0 n1 n2 n3 : Nat} {t0 t1 t2 t3 : TypeId} {f0 F G f2 f3 : Nat → Int} {k : Nat} (h : S4 w g0 g1 g2 g3 n0 t0 f0 n1 t1 (mix k F G) n2 t2 f2 n3 t3 f3 W) (h0 : g0 ≠ g1) (h2 : g2 ≠ g1) (h3 : g3 ≠ g1) (hg : w.heap.size ≤ g1) {x : Int} (hx : F k = x) : S4 w g0 g1 g2 g3 n0 t0 f0 n1 t1 (mix (k + 1) F G) n2 t2 f2 n3 t3 f3 (W.setCell ⟨g1, k, none⟩ (.int .i64 x)) := by
  subst hx
  refine ⟨bel_set h.1 hg _, h.2.1.other h0 _ _, ?_, h.2.2.2.1.other h2 _ _, h.2.2.2.2.other h3 _ _⟩
  rw [← mix_upd]
  exact h.2.2.1.set _ _
theorem app_ok {m v : Nat → Int} (h : okM m = true) : appM m v = appF m v := by unfold appM; rw [if_pos h]
theorem app_bad {m v : Nat → Int} (h : okM m = false) (F : Nat → Int) : appM m v = part 0 F := by unfold appM; rw [if_neg (by rw [h]; simp), part_zero]

set_option maxHeartbeats 8000000 in
set_option maxRecDepth 100000 in
theorem c17 (m v : Nat → Int) (w : World) :
    Calls Try.prog 17 #[.agg (arr 9 m), .agg (arr 3 v)] w fun e w' => e = .returned (.agg (arr 3 (appM m v))) ∧ Below w.heap.size w w' := by
  have CK := Lib.hid (show ∀ W : World, Calls Try.prog 11 #[.agg #[.int .i64 (m 0), .int .i64 (m 1), .int .i64 (m 2), .int .i64 (m 3), .int .i64 (m 4), .int .i64 (m 5), .int .i64 (m 6), .int .i64 (m 7), .int .i64 (m 8)]] W fun e w' => e = .returned (.int .i64 (ckM m)) ∧ Below W.heap.size W w' from fun W => c11 m W)
  obtain ⟨F, hF⟩ : ∃ F, appF m v = F := ⟨_, rfl⟩
  have HS := Lib.hid (S4.new w 9 3 3 3 22 29 29 29 m v (part 0 F) (part 0 F))
  obtain ⟨g0, e0⟩ : ∃ g, g = w.heap.size := ⟨_, rfl⟩
  obtain ⟨g1, e1⟩ : ∃ g, g = w.heap.size + 1 := ⟨_, rfl⟩
  obtain ⟨g2, e2⟩ : ∃ g, g = w.heap.size + 1 + 1 := ⟨_, rfl⟩
  obtain ⟨g3, e3⟩ : ∃ g, g = w.heap.size + 1 + 1 + 1 := ⟨_, rfl⟩
  have HG := Lib.hid (show g0 ≠ g3 ∧ g1 ≠ g3 ∧ g2 ≠ g3 ∧ w.heap.size ≤ g3 ∧ w.heap.size ≤ g2 ∧ g0 ≠ g1 ∧ g2 ≠ g1 ∧ g3 ≠ g1 ∧ w.heap.size ≤ g1 by omega)
  rw [← e3, ← e2, ← e1, ← e0, ← arr9 m, ← arr3 v] at HS
  obtain ⟨y, hy⟩ : ∃ y, part 0 F = y := ⟨_, rfl⟩
  have HY := Lib.hid hy
  rw [← arr9 m, ← arr3 v]
  rcases @ckM_eq m with ⟨ea, oa⟩ | ⟨ea, oa⟩
  · rw [app_ok oa, hF]
    have RA := Lib.hid (okM_at oa)
    rw [ea] at CK
    clear ea oa
    go_enter Try.func17, Try.ntmps17
    go_wp2_with (go_at_call 11; fail)
    rw [zeros3 F]
    generalize (((w.alloc (.cells #[.int .i64 (m 0), .int .i64 (m 1), .int .i64 (m 2), .int .i64 (m 3), .int .i64 (m 4), .int .i64 (m 5), .int .i64 (m 6), .int .i64 (m 7), .int .i64 (m 8)] 22)).alloc (.cells #[.int .i64 (v 0), .int .i64 (v 1), .int .i64 (v 2)] 29)).alloc (.cells (arr 3 (part 0 F)) 29)).alloc (.cells (arr 3 (part 0 F)) 29) = V at *
    rw [← e3, ← e2, ← e1, ← e0]
    rw [hy] at HS
    clear e0 e1 e2 e3 hy
    (with_reducible refine (CK.out _).mono ?_)
    rintro e1 w1 ⟨rfl, hb1⟩
    replace HS := Lib.hid (HS.out.keep hb1)
    clear hb1 CK
    obtain ⟨G, hG⟩ : ∃ G, (fun k => clv (v k)) = G := ⟨_, rfl⟩
    have HGv := Lib.hid (show ∀ k, G k = clv (v k) from fun k => by rw [← hG])
    have HT := Lib.hid (show ∀ i, F i = dvi (dot (rowF m i) G) 65536 from fun i => by rw [← hF, ← hG]; rfl)
    have HI := Lib.hid (fun k hk => idx29 v k hk)
    clear hF hG
    obtain ⟨b0, b1, b2⟩ := HS.out.2.2.1.cells3
    go_wp2_with fail
    clear b0 b1 b2
    generalize #[Value.int .i64 (v 0), .int .i64 (v 1), .int .i64 (v 2)] = vv at *
    go_loopw [14] (fun ii W => ∃ i : Nat, ii = .int .i64 (i : Int) ∧ i ≤ 3 ∧ Hid (S4 w g0 g1 g2 g3 9 22 m 3 29 (mix (i) G v) 3 29 y 3 29 y W)) (fun ii _ => (3 - (intOf ii).toNat))
    case atStart => exact ⟨0, rfl, by omega, Lib.hid (show S4 w g0 g1 g2 g3 9 22 m 3 29 (mix 0 G v) 3 29 y 3 29 y w1 by rw [mix_zero]; exact HS.out)⟩
    case round =>
      obtain ⟨i, rfl, hi, hs⟩ := hrel
      clear HS
      by_cases hlt : i < 3
      · have ki : IntKind.i64.wrap ((i : Int) + 1) = (i : Int) + 1 := IntWalk.i64_in _ (by omega)
        have i3 : (i : Int) < 3 := by omega
        have hx := HI.out i hlt
        have ci := hs.out.2.2.1.cell hlt
        have fi := hs.out.2.2.1.frozen i
        have hv := HGv.out i
        have CL := Lib.hid (fun W => t16 (v i) (-1073741824) 1073741824 W)
        rw [show min 1073741824 (max (v i) (-1073741824)) = G i by rw [hv]; rfl] at CL
        have HG' := HG.out
        have HN := Lib.hid (hs.out.mix1 HG'.2.2.2.2.2.1 HG'.2.2.2.2.2.2.1 HG'.2.2.2.2.2.2.2.1 HG'.2.2.2.2.2.2.2.2 (show G i = G i from rfl))
        clear hs hv HG' HI HGv HT
        generalize mix i G v i = z at *
        generalize v i = x at *
        go_wp2_with (go_at_call 29; fail)
        (with_reducible refine (CL.out _).mono ?_)
        rintro e5 w5 ⟨rfl, rfl⟩
        go_wp2
        go_roundw
        case rel => exact ⟨i + 1, by simp, by omega, HN⟩
        case measure => simp [intOf]; omega
      · obtain rfl : i = 3 := by omega
        have HS := Lib.hid (show S4 w g0 g1 g2 g3 9 22 m 3 29 G 3 29 y 3 29 (part 0 F) wr by rw [HY.out]; exact ⟨hs.out.1, hs.out.2.1, hs.out.2.2.1.mixed, hs.out.2.2.2.1, hs.out.2.2.2.2⟩)
        clear hs hlt hi
        rw [show ((3 : Nat) : Int) = 3 from rfl]
        go_wp2
        go_loopw [23] (fun ii W => ∃ i : Nat, ii = .int .i64 (i : Int) ∧ i ≤ 3 ∧ Hid (S4 w g0 g1 g2 g3 9 22 m 3 29 G 3 29 y 3 29 (part (i) F) W)) (fun ii _ => (3 - (intOf ii).toNat))
        case atStart => exact ⟨0, rfl, by omega, HS⟩
        case round =>
          obtain ⟨i, rfl, hi, hs⟩ := hrel
          clear HS
          by_cases hlt : i < 3
          · have ki : IntKind.i64.wrap ((i : Int) + 1) = (i : Int) + 1 := IntWalk.i64_in _ (by omega)
            have i3 : (i : Int) < 3 := by omega
            have pr : ∀ k, k < 3 → -2305843009213693952 ≤ rowF m i k * G k ∧ rowF m i k * G k ≤ 2305843009213693952 := fun k hk => by
              have r1 := RA.out (3 * i + k) (by omega)
              have := prod_in r1 (clv_b (v k))
              rw [HGv.out k]
              unfold rowF
              omega
            obtain ⟨d, hd⟩ : ∃ d, F i = d := ⟨_, rfl⟩
            have CT := (show ∀ W : World, Calls Try.prog 25 #[.agg (arr 3 (rowF m i)), .agg #[.int .i64 (G 0), .int .i64 (G 1), .int .i64 (G 2)]] W fun e w' => e = .returned (.int .i64 d) ∧ Below W.heap.size W w' from fun W => by
              have := c25 (rowF m i) G W (pr 0 (by omega)) (pr 1 (by omega)) (pr 2 (by omega))
              rw [← HT.out i, hd] at this
              exact this)
            obtain ⟨la, hla⟩ : ∃ l, lst 9 m = l := ⟨_, rfl⟩
            have IA := Lib.hid (info_lst m hla)
            have CR := (show ∀ W : World, Calls Try.prog 26 #[.agg la.toArray, .int .i64 (i : Int)] W fun e w' => e = .returned (.agg (arr 3 (rowF m i))) ∧ Below W.heap.size W w' from fun W => hla ▸ c26 m i hlt W)
            have HG' := HG.out
            have h5 := hs.out
            obtain ⟨D, emb, hne, HC0, HA, b0, b1, b2, H26, H25, HE⟩ : ∃ (D : Type) (emb : D → World), Nonempty D ∧ Hid (∃ q, wr.drew = emb q) ∧ Hid (∀ W, (∃ q, W = emb q) → W.rangeAt g0 0 la) ∧
                (∀ q, (emb q).cell? ⟨g1, 0, none⟩ = some (.int .i64 (G 0))) ∧ (∀ q, (emb q).cell? ⟨g1, 1, none⟩ = some (.int .i64 (G 1))) ∧ (∀ q, (emb q).cell? ⟨g1, 2, none⟩ = some (.int .i64 (G 2))) ∧
                Hid (∀ q, Calls Try.prog 26 #[.agg la.toArray, .int .i64 (i : Int)] (emb q) fun e w' => e = .returned (.agg (arr 3 (rowF m i))) ∧ ∃ q', w' = emb q') ∧
                Hid (∀ q, Calls Try.prog 25 #[.agg (arr 3 (rowF m i)), .agg #[.int .i64 (G 0), .int .i64 (G 1), .int .i64 (G 2)]] (emb q) fun e w' => e = .returned (.int .i64 d) ∧ ∃ q', w' = emb q') ∧
                Hid (∀ q, (emb q).cell? ⟨g3, i, none⟩ = some (.int .i64 (part i F i)) ∧ (emb q).frozen? ⟨g3, i, none⟩ = false ∧ S4 w g0 g1 g2 g3 9 22 m 3 29 G 3 29 y 3 29 (part (i + 1) F) ((emb q).setCell ⟨g3, i, none⟩ (.int .i64 d))) :=
              ⟨{W // Below wr.heap.size wr W}, Subtype.val, ⟨⟨_, bel_drewN 1⟩⟩, Lib.hid ⟨⟨_, bel_drewN 1⟩, rfl⟩, Lib.hid (fun W ⟨q, h⟩ => h ▸ hla ▸ (h5.2.1.keep q.2).range),
                fun q => (h5.2.2.1.keep q.2).cell (by omega), fun q => (h5.2.2.1.keep q.2).cell (by omega), fun q => (h5.2.2.1.keep q.2).cell (by omega),
                Lib.hid fun q => (CR q.1).mono fun e w' h => ⟨h.1, ⟨w', bel_trans q.2 h.2⟩, rfl⟩, Lib.hid fun q => (CT q.1).mono fun e w' h => ⟨h.1, ⟨w', bel_trans q.2 h.2⟩, rfl⟩,
                Lib.hid fun q => ⟨(h5.2.2.2.2.keep q.2).cell hlt, (h5.2.2.2.2.keep q.2).frozen i, (h5.keep q.2).part3 HG'.1 HG'.2.1 HG'.2.2.1 HG'.2.2.2.1 hd⟩⟩
            clear hs h5 HG' CR CT pr hd hla HT HGv RA
            generalize arr 3 (rowF m i) = rr at *
            generalize part i F i = yi at *
            go_wp2_with fail
            refine wp_region_quiet_tailC (fun W => ∃ q, W = emb q) HC0.out 7 (by kernel_rfl) (by kernel_rfl) ?_
            simp only [List.take_succ_cons, List.take_zero, List.drop_succ_cons, List.drop_zero]
            quiet_step (fail)
            refine BigFrame.wpQuiet_want (by rfl) (fun K hK => quiet_load_mid 22 (.tmp 2) rfl g0 0 rfl la _ HA.out Try.underlying22 rfl IA.out (hK _ ?_))
            simp only [Act.put, List.setIfInBounds_toArray, List.set_cons_zero, List.set_cons_succ]
            clear hK K
            quiet_step (fail)
            quiet_step ((go_at_call 26; exact H26.out _))
            quiet_step (fail)
            quiet_step ((go_at_call 25; exact H25.out _))
            quiet_step (fail)
            refine wpQuiet_nil ?_
            intro _ hw'
            obtain ⟨q, hw''⟩ := hw'
            subst hw''
            obtain ⟨k1, k2, k3⟩ := HE.out q
            have K3 := Lib.hid k3
            clear k3 HE H25 H26 HA b0 b1 b2 HC0
            go_wp2
            go_roundw
            case rel => exact ⟨i + 1, by simp, by omega, K3⟩
            case measure => simp [intOf]; omega
          · obtain rfl : i = 3 := by omega
            have h3 := hs.out.2.2.2.2.full3
            have h2 := hs.out.2.2.2.1
            obtain ⟨a0, a1, a2⟩ := h3.cells3
            obtain ⟨b0, b1, b2⟩ := h2.cells3
            obtain ⟨d0, d1, d2⟩ := h2.froz3
            have hR := Lib.hid (h2.set3 F)
            have hB := Lib.hid (bel_set3 hs.out.1 HG.out.2.2.2.2.1 F)
            clear h2 h3 hlt hi hs HT HGv RA
            go_wp2
            exact bodyPost_ret (v := .agg (arr 3 F)) (results_cell_row rfl _ _ g2 29 (arr 3 F) (0, 0) _ rfl hR.out Try.underlying29 rfl (row29 F)) rfl ⟨rfl, hB.out⟩
  · rw [app_bad oa F, hy]
    rw [ea] at CK
    clear ea oa hF
    go_enter Try.func17, Try.ntmps17
    go_wp2_with (go_at_call 11; fail)
    rw [zeros3 F]
    generalize (((w.alloc (.cells #[.int .i64 (m 0), .int .i64 (m 1), .int .i64 (m 2), .int .i64 (m 3), .int .i64 (m 4), .int .i64 (m 5), .int .i64 (m 6), .int .i64 (m 7), .int .i64 (m 8)] 22)).alloc (.cells #[.int .i64 (v 0), .int .i64 (v 1), .int .i64 (v 2)] 29)).alloc (.cells (arr 3 (part 0 F)) 29)).alloc (.cells (arr 3 (part 0 F)) 29) = V at *
    rw [← e3, ← e2, ← e1, ← e0]
    rw [hy] at HS
    clear e0 e1 e2 e3 hy
    (with_reducible refine (CK.out _).mono ?_)
    rintro e1 w1 ⟨rfl, hb1⟩
    replace HS := Lib.hid (HS.out.keep hb1)
    clear hb1 CK
    have h3 := HS.out.2.2.2.2
    have h2 := HS.out.2.2.2.1
    obtain ⟨a0, a1, a2⟩ := h3.cells3
    obtain ⟨b0, b1, b2⟩ := h2.cells3
    obtain ⟨d0, d1, d2⟩ := h2.froz3
    have hR := Lib.hid (h2.set3 y)
    have hB := Lib.hid (bel_set3 HS.out.1 HG.out.2.2.2.2.1 y)
    clear h2 h3 
    go_wp2
    exact bodyPost_ret (v := .agg (arr 3 y)) (results_cell_row rfl _ _ g2 29 (arr 3 y) (0, 0) _ rfl hR.out Try.underlying29 rfl (row29 y)) rfl ⟨rfl, hB.out⟩

end Go.Proofs.Ytmafmpgpaioniaa
