import Derived.Test.YtmafmpgpaioniaaProg
import Derived.WalkKit
import Derived.WalkLawsBesides
import Derived.Outline
import Derived.Lib.Walk
import Derived.Deep.QuietTactic
import Derived.BigQuiet
import Derived.RowKit3
import Derived.Deep.LoopGhost
import Derived.Laws.Rows
import Derived.Laws.Tables
import Derived.Laws.CopyOwn
import Derived.Lib.Hide
import Derived.Handy
import Derived.Deep.Onto
import Derived.IntWalk
import Derived.Deep.WholeRow
import Derived.Laws.ResultCell
import Derived.Test.YtmafmpgpaioniaaAW0
namespace Go.Proofs.Ytmafmpgpaioniaa
open Go.RowKit
set_option maxHeartbeats 400000
set_option linter.unusedVariables false

set_option maxHeartbeats 8000000 in
set_option maxRecDepth 100000 in
theorem l10 (w : World) : Calls Try.prog 10 #[] w fun e w' => e = .returned (.bool true) ∧ Below w.heap.size w w' := by
  have HB := Lib.hid (Below.refl w.heap.size w)
  have WMQ := Lib.hid wM
  have WNQ := Lib.hid wN
  have WPQ := Lib.hid wP
  have WTQ := Lib.hid wT
  have WIQ := Lib.hid wI
  have MULAQ := Lib.hid mulA
  have APAQ := Lib.hid apA
  have APBQ := Lib.hid apB
  have APCQ := Lib.hid apC
  have DEAQ := Lib.hid deA
  have DEBQ := Lib.hid deB
  have INAQ := Lib.hid inA
  have INBQ := Lib.hid inB
  have INCQ := Lib.hid inC
  have CHAQ := Lib.hid chA
  have SAAQ := Lib.hid saA
  have neP' := neP
  have neA' := neA
  have neT' := neT
  have ne1' := ne1
  have ne0' := ne0
  have neB' := neB
  have eqI' := eqI
  go_enter Try.func10, Try.ntmps10
  go_wp2_with (go_at_call 24; fail)
  (with_reducible refine (WMQ.out _).mono ?_)
  rintro e1 w1 ⟨rfl, hb⟩
  replace HB := Lib.hid (bel_trans HB.out hb)
  clear hb
  go_wp2_with (go_at_call 24; fail)
  (with_reducible refine (WNQ.out _).mono ?_)
  rintro e2 w2 ⟨rfl, hb⟩
  replace HB := Lib.hid (bel_trans HB.out hb)
  clear hb
  clear WMQ WNQ
  go_wp2_with (go_at_call 13; fail)
  have H1 := Lib.hid (show Has ((w2.alloc (.cells #[.int .i64 65536, .int .i64 131072, .int .i64 0, .int .i64 0, .int .i64 65536, .int .i64 0, .int .i64 0, .int .i64 0, .int .i64 65536] 22)).alloc (.cells #[.int .i64 65536, .int .i64 0, .int .i64 0, .int .i64 196608, .int .i64 65536, .int .i64 0, .int .i64 0, .int .i64 0, .int .i64 65536] 22)) w2.heap.size 9 22 (fun j => ([65536, 131072, 0, 0, 65536, 0, 0, 0, 65536] : List Int).getD j 0) from (Has.new w2 9 22 (fun j => ([65536, 131072, 0, 0, 65536, 0, 0, 0, 65536] : List Int).getD j 0)).keep ((Below.refl _ _).alloc (Nat.le_refl _) _))
  have HBa := Lib.hid (show Below w.heap.size w ((w2.alloc (.cells #[.int .i64 65536, .int .i64 131072, .int .i64 0, .int .i64 0, .int .i64 65536, .int .i64 0, .int .i64 0, .int .i64 0, .int .i64 65536] 22)).alloc (.cells #[.int .i64 65536, .int .i64 0, .int .i64 0, .int .i64 196608, .int .i64 65536, .int .i64 0, .int .i64 0, .int .i64 0, .int .i64 65536] 22)) from bel_al (bel_al HB.out _) _)
  replace HB := HBa
  clear HBa
  generalize (w2.alloc (.cells #[.int .i64 65536, .int .i64 131072, .int .i64 0, .int .i64 0, .int .i64 65536, .int .i64 0, .int .i64 0, .int .i64 0, .int .i64 65536] 22)).alloc (.cells #[.int .i64 65536, .int .i64 0, .int .i64 0, .int .i64 196608, .int .i64 65536, .int .i64 0, .int .i64 0, .int .i64 0, .int .i64 65536] 22) = V at *
  generalize w2.heap.size = g1 at *
  (with_reducible refine (MULAQ.out _).mono ?_)
  rintro e3 w3 ⟨rfl, hb⟩
  replace HB := Lib.hid (bel_trans HB.out hb)
  replace H1 := Lib.hid (H1.out.keep hb)
  clear hb MULAQ
  go_wp2_with (go_at_call 24; fail)
  (with_reducible refine (WPQ.out _).mono ?_)
  rintro e4 w4 ⟨rfl, hb⟩
  replace HB := Lib.hid (bel_trans HB.out hb)
  replace H1 := Lib.hid (H1.out.keep hb)
  clear hb
  clear WPQ
  have a0 : w4.cell? ⟨g1, 0, none⟩ = some (.int .i64 65536) := H1.out.cell (by omega)
  have a1 : w4.cell? ⟨g1, 1, none⟩ = some (.int .i64 131072) := H1.out.cell (by omega)
  have a2 : w4.cell? ⟨g1, 2, none⟩ = some (.int .i64 0) := H1.out.cell (by omega)
  have a3 : w4.cell? ⟨g1, 3, none⟩ = some (.int .i64 0) := H1.out.cell (by omega)
  have a4 : w4.cell? ⟨g1, 4, none⟩ = some (.int .i64 65536) := H1.out.cell (by omega)
  have a5 : w4.cell? ⟨g1, 5, none⟩ = some (.int .i64 0) := H1.out.cell (by omega)
  have a6 : w4.cell? ⟨g1, 6, none⟩ = some (.int .i64 0) := H1.out.cell (by omega)
  have a7 : w4.cell? ⟨g1, 7, none⟩ = some (.int .i64 0) := H1.out.cell (by omega)
  have a8 : w4.cell? ⟨g1, 8, none⟩ = some (.int .i64 65536) := H1.out.cell (by omega)
  go_wp2_with (go_at_call 17; fail)
  (with_reducible refine (APAQ.out _).mono ?_)
  rintro e5 w5 ⟨rfl, hb⟩
  replace HB := Lib.hid (bel_trans HB.out hb)
  replace H1 := Lib.hid (H1.out.keep hb)
  clear hb
  clear APAQ
  clear a0 a1 a2 a3 a4 a5 a6 a7 a8
  have a0 : w5.cell? ⟨g1, 0, none⟩ = some (.int .i64 65536) := H1.out.cell (by omega)
  have a1 : w5.cell? ⟨g1, 1, none⟩ = some (.int .i64 131072) := H1.out.cell (by omega)
  have a2 : w5.cell? ⟨g1, 2, none⟩ = some (.int .i64 0) := H1.out.cell (by omega)
  have a3 : w5.cell? ⟨g1, 3, none⟩ = some (.int .i64 0) := H1.out.cell (by omega)
  have a4 : w5.cell? ⟨g1, 4, none⟩ = some (.int .i64 65536) := H1.out.cell (by omega)
  have a5 : w5.cell? ⟨g1, 5, none⟩ = some (.int .i64 0) := H1.out.cell (by omega)
  have a6 : w5.cell? ⟨g1, 6, none⟩ = some (.int .i64 0) := H1.out.cell (by omega)
  have a7 : w5.cell? ⟨g1, 7, none⟩ = some (.int .i64 0) := H1.out.cell (by omega)
  have a8 : w5.cell? ⟨g1, 8, none⟩ = some (.int .i64 65536) := H1.out.cell (by omega)
  go_wp2_with (go_at_call 19; fail)
  (with_reducible refine (INAQ.out _).mono ?_)
  rintro e6 w6 ⟨rfl, hb⟩
  replace HB := Lib.hid (bel_trans HB.out hb)
  clear hb
  clear INAQ H1
  clear a0 a1 a2 a3 a4 a5 a6 a7 a8
  go_wp2_with fail
  have H3 := Lib.hid (Has.new w6 9 22 (fun j => ([65536, (-131072), 0, 0, 65536, 0, 0, 0, 65536] : List Int).getD j 0))
  have HBa := Lib.hid (bel_al HB.out (.cells (arr 9 (fun j => ([65536, (-131072), 0, 0, 65536, 0, 0, 0, 65536] : List Int).getD j 0)) 22))
  have HG := Lib.hid (show w.heap.size ≤ w6.heap.size from HB.out.size)
  replace HB := HBa
  clear HBa
  have hVV : w6.alloc (.cells #[.int .i64 65536, .int .i64 (-131072), .int .i64 0, .int .i64 0, .int .i64 65536, .int .i64 0, .int .i64 0, .int .i64 0, .int .i64 65536] 22) = w6.alloc (.cells (arr 9 (fun j => ([65536, (-131072), 0, 0, 65536, 0, 0, 0, 65536] : List Int).getD j 0)) 22) := rfl
  rw [hVV]
  generalize w6.alloc (.cells (arr 9 (fun j => ([65536, (-131072), 0, 0, 65536, 0, 0, 0, 65536] : List Int).getD j 0)) 22) = V2 at *
  clear hVV
  generalize w6.heap.size = g3 at *
  have IA := Lib.hid (info_lst (fun j => ([65536, (-131072), 0, 0, 65536, 0, 0, 0, 65536] : List Int).getD j 0) rfl)
  obtain ⟨D, emb, hne, HC0, HA, H24, HE⟩ : ∃ (D : Type) (emb : D → World), Nonempty D ∧ Hid (∃ q, V2.drew = emb q) ∧ Hid (∀ W, (∃ q, W = emb q) → W.rangeAt g3 0 [.int .i64 65536, .int .i64 (-131072), .int .i64 0, .int .i64 0, .int .i64 65536, .int .i64 0, .int .i64 0, .int .i64 0, .int .i64 65536]) ∧
      Hid (∀ q, Calls Try.prog 24 #[.agg #[.int .i64 1, .int .i64 (-2), .int .i64 0, .int .i64 0, .int .i64 1, .int .i64 0, .int .i64 0, .int .i64 0, .int .i64 1]] (emb q) fun e w' => e = .returned (.agg #[.int .i64 65536, .int .i64 (-131072), .int .i64 0, .int .i64 0, .int .i64 65536, .int .i64 0, .int .i64 0, .int .i64 0, .int .i64 65536]) ∧ ∃ q', w' = emb q') ∧
      Hid (∀ q, Below w.heap.size w (emb q) ∧ Has (emb q) g3 9 22 (fun j => ([65536, (-131072), 0, 0, 65536, 0, 0, 0, 65536] : List Int).getD j 0)) :=
    ⟨{W // Below V2.heap.size V2 W}, Subtype.val, ⟨⟨_, bel_drewN 1⟩⟩, Lib.hid ⟨⟨_, bel_drewN 1⟩, rfl⟩, Lib.hid (fun W ⟨q, h⟩ => h ▸ (H3.out.keep q.2).range),
      Lib.hid fun q => (wT q.1).mono fun e w' h => ⟨h.1, ⟨w', bel_trans q.2 h.2⟩, rfl⟩, Lib.hid fun q => ⟨bel_trans HB.out q.2, H3.out.keep q.2⟩⟩
  clear HB H3 WTQ
  refine wp_region_quiet_tailC (fun W => ∃ q, W = emb q) HC0.out 7 (by kernel_rfl) (by kernel_rfl) ?_
  simp only [List.take_succ_cons, List.take_zero, List.drop_succ_cons, List.drop_zero]
  refine BigFrame.wpQuiet_want (by rfl) (fun K hK => quiet_load_mid 22 (.tmp 3) rfl g3 0 rfl _ _ HA.out Try.underlying22 rfl IA.out (hK _ ?_))
  simp only [Act.put, List.setIfInBounds_toArray, List.set_cons_zero, List.set_cons_succ]
  clear hK K
  quiet_step (fail)
  quiet_step ((go_at_call 24; exact H24.out _))
  repeat (quiet_step (fail))
  refine wpQuiet_nil ?_
  intro _ hw'
  obtain ⟨q, hw''⟩ := hw'
  subst hw''
  obtain ⟨hB, h3⟩ := HE.out q
  have HB := Lib.hid hB
  have H3 := Lib.hid h3
  clear hB h3 HE HA H24 HC0 IA
  go_wp2_with (go_at_call 17; fail)
  (with_reducible refine (APBQ.out _).mono ?_)
  rintro e7 w7 ⟨rfl, hb⟩
  replace HB := Lib.hid (bel_trans HB.out hb)
  replace H3 := Lib.hid (H3.out.keep hb)
  clear hb
  clear APBQ
  go_wp2_with (go_at_call 17; fail)
  (with_reducible refine (APCQ.out _).mono ?_)
  rintro e8 w8 ⟨rfl, hb⟩
  replace HB := Lib.hid (bel_trans HB.out hb)
  replace H3 := Lib.hid (H3.out.keep hb)
  clear hb
  clear APCQ
  go_wp2_with (go_at_call 21; fail)
  (with_reducible refine (DEAQ.out _).mono ?_)
  rintro e9 w9 ⟨rfl, hb⟩
  replace HB := Lib.hid (bel_trans HB.out hb)
  replace H3 := Lib.hid (H3.out.keep hb)
  clear hb
  clear DEAQ
  go_wp2_with (go_at_call 21; fail)
  (with_reducible refine (DEBQ.out _).mono ?_)
  rintro e10 w10 ⟨rfl, hb⟩
  replace HB := Lib.hid (bel_trans HB.out hb)
  replace H3 := Lib.hid (H3.out.keep hb)
  clear hb
  clear DEBQ
  go_wp2_with (go_at_call 19; fail)
  (with_reducible refine (INBQ.out _).mono ?_)
  rintro e11 w11 ⟨rfl, hb⟩
  replace HB := Lib.hid (bel_trans HB.out hb)
  replace H3 := Lib.hid (H3.out.keep hb)
  clear hb
  clear INBQ
  have a0 : w11.cell? ⟨g3, 0, none⟩ = some (.int .i64 65536) := H3.out.cell (by omega)
  have a1 : w11.cell? ⟨g3, 1, none⟩ = some (.int .i64 (-131072)) := H3.out.cell (by omega)
  have a2 : w11.cell? ⟨g3, 2, none⟩ = some (.int .i64 0) := H3.out.cell (by omega)
  have a3 : w11.cell? ⟨g3, 3, none⟩ = some (.int .i64 0) := H3.out.cell (by omega)
  have a4 : w11.cell? ⟨g3, 4, none⟩ = some (.int .i64 65536) := H3.out.cell (by omega)
  have a5 : w11.cell? ⟨g3, 5, none⟩ = some (.int .i64 0) := H3.out.cell (by omega)
  have a6 : w11.cell? ⟨g3, 6, none⟩ = some (.int .i64 0) := H3.out.cell (by omega)
  have a7 : w11.cell? ⟨g3, 7, none⟩ = some (.int .i64 0) := H3.out.cell (by omega)
  have a8 : w11.cell? ⟨g3, 8, none⟩ = some (.int .i64 65536) := H3.out.cell (by omega)
  have d0 := H3.out.frozen 0
  have d1 := H3.out.frozen 1
  have d2 := H3.out.frozen 2
  have d3 := H3.out.frozen 3
  have d4 := H3.out.frozen 4
  have d5 := H3.out.frozen 5
  have d6 := H3.out.frozen 6
  have d7 := H3.out.frozen 7
  have d8 := H3.out.frozen 8
  have H4 := Lib.hid (H3.out.set9 (fun j => ([21845, 0, 0, 0, 65536, 0, 0, 0, 65536] : List Int).getD j 0))
  have HB4 := Lib.hid (bel_set9 HB.out HG.out (fun j => ([21845, 0, 0, 0, 65536, 0, 0, 0, 65536] : List Int).getD j 0))
  clear HB H3
  go_wp2_with (go_at_call 19; fail)
  (with_reducible refine (INCQ.out _).mono ?_)
  rintro e12 w12 ⟨rfl, hb⟩
  have HB := Lib.hid (bel_trans HB4.out hb)
  clear hb HB4 H4 INCQ
  clear a0 a1 a2 a3 a4 a5 a6 a7 a8 d0 d1 d2 d3 d4 d5 d6 d7 d8
  go_wp2_with (go_at_call 11; fail)
  (with_reducible refine (CHAQ.out _).mono ?_)
  rintro e13 w13 ⟨rfl, hb⟩
  replace HB := Lib.hid (bel_trans HB.out hb)
  clear hb
  clear CHAQ
  go_wp2_with (go_at_call 23; fail)
  (with_reducible refine (SAAQ.out _).mono ?_)
  rintro e14 w14 ⟨rfl, hb⟩
  replace HB := Lib.hid (bel_trans HB.out hb)
  clear hb
  clear SAAQ
  go_wp2_with (go_at_call 24; fail)
  (with_reducible refine (WIQ.out _).mono ?_)
  rintro e15 w15 ⟨rfl, hb⟩
  replace HB := Lib.hid (bel_trans HB.out hb)
  clear hb
  clear WIQ
  go_wp2
  go_ret
  exact ⟨rfl, HB.out⟩

end Go.Proofs.Ytmafmpgpaioniaa
