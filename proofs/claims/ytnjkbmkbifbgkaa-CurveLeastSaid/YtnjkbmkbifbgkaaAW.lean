import Derived.Test.YtnjkbmkbifbgkaaProg
import Derived.WalkKit
import Derived.WalkLawsBesides
import Derived.Outline
import Derived.Lib.Walk
import Derived.Deep.QuietTactic
import Derived.BigQuiet
import Derived.RowKit3
import Derived.Deep.LoopGhost
import Derived.Laws.Rows
import Derived.Laws.Tables
import Derived.Laws.CopyOwn
import Derived.Lib.Hide
import Derived.Handy
import Derived.Deep.Onto
import Derived.Test.YtnjkbmkbifbgkaaC18
import Derived.Test.YtnjkbmkbifbgkaaS22
import Derived.Test.YtnjkbmkbifbgkaaK21
import Derived.Test.YtnjkbmkbifbgkaaK23
import Derived.Test.YtnjkbmkbifbgkaaS24
import Derived.Test.YtnjkbmkbifbgkaaC20
namespace Go.Proofs.Ytnjkbmkbifbgkaa
open Go.RowKit
set_option maxHeartbeats 400000
set_option linter.unusedVariables false

theorem argK_new {W : World} {cs : Array Value} {t : TypeId} {cap : Nat} {L : KL} (h : ∀ k, k < L.length → cs[k * 2]? = some (.int .i64 (kn L k).1) ∧ cs[k * 2 + 1]? = some (.int .i64 (kn L k).2)) :
    argK (W.alloc (.cells cs t)) (W.alloc (.cells cs t)).heap.size (.slice (some ⟨W.heap.size, 0, none⟩) L.length cap) L := by
  refine ⟨_, cap, rfl, fun _ => ⟨W.heap.size, 0, rfl, by simp, fun k hk => ?_⟩⟩
  obtain ⟨h1, h2⟩ := h k hk
  rw [Nat.zero_add, World.cell?_alloc_at _ _ _ _ rfl, World.cell?_alloc_at _ _ _ _ rfl]
  exact ⟨h1, h2⟩
theorem argK_al {W : World} {v : Value} {L : KL} (h : argK W W.heap.size v L) (o : Obj) : argK (W.alloc o) (W.alloc o).heap.size v L := h.up ((Below.refl _ W).alloc (Nat.le_refl _) o) (by simp)
theorem argK_bel {W W' : World} {v : Value} {L : KL} (h : argK W W.heap.size v L) (hg : Below W.heap.size W W') : argK W' W'.heap.size v L := h.up hg hg.size
theorem aw11 : ∀ (v : Value) (w : World), argK w w.heap.size v [(0, 0), (0, 5)] → Calls Try.prog 11 #[v] w fun e w' => e = .returned (.int .i64 24) ∧ Below w.heap.size w w' := fun v w h => (show (24 : Int) = chk [(0, 0), (0, 5)] by kernel_rfl) ▸ c11 v [(0, 0), (0, 5)] w h
theorem awA : ∀ (v : Value) (w : World), argK w w.heap.size v [(100, 7), (200, 9)] → Calls Try.prog 16 #[v, .int .i64 (-5)] w fun e w' => e = .returned (.int .i64 7) ∧ Below w.heap.size w w' := fun v w h => (show (7 : Int) = atF [(100, 7), (200, 9)] (-5) by kernel_rfl) ▸ k16 v [(100, 7), (200, 9)] (-5) w h
theorem awB : ∀ (v : Value) (w : World), argK w w.heap.size v [(100, 7), (200, 9)] → Calls Try.prog 16 #[v, .int .i64 125] w fun e w' => e = .returned (.int .i64 8) ∧ Below w.heap.size w w' := fun v w h => (show (8 : Int) = atF [(100, 7), (200, 9)] (125) by kernel_rfl) ▸ k16 v [(100, 7), (200, 9)] (125) w h
theorem awC : ∀ (v : Value) (w : World), argK w w.heap.size v [(100, 7), (200, 9)] → Calls Try.prog 16 #[v, .int .i64 300] w fun e w' => e = .returned (.int .i64 9) ∧ Below w.heap.size w w' := fun v w h => (show (9 : Int) = atF [(100, 7), (200, 9)] (300) by kernel_rfl) ▸ k16 v [(100, 7), (200, 9)] (300) w h
theorem awD : ∀ (v : Value) (w : World), argK w w.heap.size v [(0, 65535), (65535, 0)] → Calls Try.prog 16 #[v, .int .i64 1] w fun e w' => e = .returned (.int .i64 65534) ∧ Below w.heap.size w w' := fun v w h => (show (65534 : Int) = atF [(0, 65535), (65535, 0)] (1) by kernel_rfl) ▸ k16 v [(0, 65535), (65535, 0)] (1) w h
theorem awE : ∀ (v : Value) (w : World), argK w w.heap.size v [(0, 0), (2, 4), (65535, 65535)] → Calls Try.prog 23 #[v, .int .i64 3] w fun e w' => e = .returned (.int .i64 2) ∧ Below w.heap.size w w' := fun v w h => (show (2 : Int) = backF [(0, 0), (2, 4), (65535, 65535)] (3) by kernel_rfl) ▸ k23 v [(0, 0), (2, 4), (65535, 65535)] (3) w h
theorem awI : ∀ (v : Value) (w : World), argK w w.heap.size v [(0, 65535), (65535, 0)] → Calls Try.prog 18 #[v] w fun e w' => ∃ u, e = .returned (.tuple #[u, .int .i64 1]) ∧ Below w.heap.size w w' := fun v w h => (show (1 : Int) = invE [(0, 65535), (65535, 0)] by kernel_rfl) ▸ (k18 v [(0, 65535), (65535, 0)] w h).mono fun e w' ⟨u, h1, _, h3⟩ => ⟨u, h1, h3⟩

set_option maxHeartbeats 8000000 in
theorem l15 (w : World) : Calls Try.prog 15 #[] w fun e w' => e = .returned (.bool true) ∧ Below w.heap.size w w' := by
  have H11 := Lib.hid aw11
  have HA := Lib.hid awA
  have HB := Lib.hid awB
  have HC := Lib.hid awC
  have HD := Lib.hid awD
  have HE := Lib.hid awE
  have HI := Lib.hid awI
  go_enter Try.func15, Try.ntmps15
  go_wp2_with (go_at_call 18; fail)
  have a0 : argK (w.alloc (.cells #[.int .i64 100, .int .i64 7, .int .i64 200, .int .i64 9] 36)) (w.alloc (.cells #[.int .i64 100, .int .i64 7, .int .i64 200, .int .i64 9] 36)).heap.size (.slice (some ⟨w.heap.size, 0, none⟩) 2 2) [(100, 7), (200, 9)] := argK_new (L := [(100, 7), (200, 9)]) (cap := 2) (fun k hk => by
    match k, hk with
    | 0, _ => exact ⟨rfl, rfl⟩
    | 1, _ => exact ⟨rfl, rfl⟩)
  have b0 : argK ((w.alloc (.cells #[.int .i64 100, .int .i64 7, .int .i64 200, .int .i64 9] 36)).alloc (.cells #[.int .i64 0, .int .i64 65535, .int .i64 65535, .int .i64 0] 36)) ((w.alloc (.cells #[.int .i64 100, .int .i64 7, .int .i64 200, .int .i64 9] 36)).alloc (.cells #[.int .i64 0, .int .i64 65535, .int .i64 65535, .int .i64 0] 36)).heap.size (.slice (some ⟨(w.alloc (.cells #[.int .i64 100, .int .i64 7, .int .i64 200, .int .i64 9] 36)).heap.size, 0, none⟩) 2 2) [(0, 65535), (65535, 0)] := argK_new (L := [(0, 65535), (65535, 0)]) (cap := 2) (fun k hk => by
    match k, hk with
    | 0, _ => exact ⟨rfl, rfl⟩
    | 1, _ => exact ⟨rfl, rfl⟩)
  have c0 : argK (((w.alloc (.cells #[.int .i64 100, .int .i64 7, .int .i64 200, .int .i64 9] 36)).alloc (.cells #[.int .i64 0, .int .i64 65535, .int .i64 65535, .int .i64 0] 36)).alloc (.cells #[.int .i64 0, .int .i64 0, .int .i64 2, .int .i64 4, .int .i64 65535, .int .i64 65535] 36)) (((w.alloc (.cells #[.int .i64 100, .int .i64 7, .int .i64 200, .int .i64 9] 36)).alloc (.cells #[.int .i64 0, .int .i64 65535, .int .i64 65535, .int .i64 0] 36)).alloc (.cells #[.int .i64 0, .int .i64 0, .int .i64 2, .int .i64 4, .int .i64 65535, .int .i64 65535] 36)).heap.size (.slice (some ⟨((w.alloc (.cells #[.int .i64 100, .int .i64 7, .int .i64 200, .int .i64 9] 36)).alloc (.cells #[.int .i64 0, .int .i64 65535, .int .i64 65535, .int .i64 0] 36)).heap.size, 0, none⟩) 3 3) [(0, 0), (2, 4), (65535, 65535)] := argK_new (L := [(0, 0), (2, 4), (65535, 65535)]) (cap := 3) (fun k hk => by
    match k, hk with
    | 0, _ => exact ⟨rfl, rfl⟩
    | 1, _ => exact ⟨rfl, rfl⟩
    | 2, _ => exact ⟨rfl, rfl⟩)
  have a1 := argK_al (argK_al a0 (.cells #[.int .i64 0, .int .i64 65535, .int .i64 65535, .int .i64 0] 36)) (.cells #[.int .i64 0, .int .i64 0, .int .i64 2, .int .i64 4, .int .i64 65535, .int .i64 65535] 36)
  have b1 := argK_al b0 (.cells #[.int .i64 0, .int .i64 0, .int .i64 2, .int .i64 4, .int .i64 65535, .int .i64 65535] 36)
  simp only [World.size_alloc] at b1 c0
  have B0 : Below w.heap.size w (((w.alloc (.cells #[.int .i64 100, .int .i64 7, .int .i64 200, .int .i64 9] 36)).alloc (.cells #[.int .i64 0, .int .i64 65535, .int .i64 65535, .int .i64 0] 36)).alloc (.cells #[.int .i64 0, .int .i64 0, .int .i64 2, .int .i64 4, .int .i64 65535, .int .i64 65535] 36)) := bel_al (bel_al (bel_al (Below.refl _ _) _) _) _
  clear a0 b0
  generalize hW : (((w.alloc (.cells #[.int .i64 100, .int .i64 7, .int .i64 200, .int .i64 9] 36)).alloc (.cells #[.int .i64 0, .int .i64 65535, .int .i64 65535, .int .i64 0] 36)).alloc (.cells #[.int .i64 0, .int .i64 0, .int .i64 2, .int .i64 4, .int .i64 65535, .int .i64 65535] 36)) = V0 at *
  have hz : w.heap.size + 3 = V0.heap.size := by rw [← hW]; simp
  clear hW
  rw [show w.heap.size + 1 + 1 + 1 = V0.heap.size by omega] at b1 c0
  (with_reducible refine (HI.out _ _ b1).mono ?_)
  rintro e1 w1 ⟨u, rfl, hg⟩
  have a2 := argK_bel a1 hg
  have b2 := argK_bel b1 hg
  have c2 := argK_bel c0 hg
  have B1 := bel_trans B0 hg
  clear a1 b1 c0 B0 hg HI
  go_wp2_with (go_at_call 11; fail)
  have d0 : argK (w1.alloc (.cells #[.int .i64 0, .int .i64 0, .int .i64 0, .int .i64 5] 36)) (w1.alloc (.cells #[.int .i64 0, .int .i64 0, .int .i64 0, .int .i64 5] 36)).heap.size (.slice (some ⟨w1.heap.size, 0, none⟩) 2 2) [(0, 0), (0, 5)] := argK_new (L := [(0, 0), (0, 5)]) (cap := 2) (fun k hk => by
    match k, hk with
    | 0, _ => exact ⟨rfl, rfl⟩
    | 1, _ => exact ⟨rfl, rfl⟩)
  have a3 := argK_al a2 (.cells #[.int .i64 0, .int .i64 0, .int .i64 0, .int .i64 5] 36)
  have b3 := argK_al b2 (.cells #[.int .i64 0, .int .i64 0, .int .i64 0, .int .i64 5] 36)
  have c3 := argK_al c2 (.cells #[.int .i64 0, .int .i64 0, .int .i64 0, .int .i64 5] 36)
  have B2 := bel_al B1 (.cells #[.int .i64 0, .int .i64 0, .int .i64 0, .int .i64 5] 36)
  clear a2 b2 c2 B1
  (with_reducible refine (H11.out _ _ d0).mono ?_)
  rintro e2 w2 ⟨rfl, hg⟩
  have a4 := argK_bel a3 hg
  have b4 := argK_bel b3 hg
  have c4 := argK_bel c3 hg
  have B4 := bel_trans B2 hg
  clear a3 b3 c3 B2 hg d0 H11
  go_wp2_with (go_at_call 16; fail)
  (with_reducible refine (HA.out _ _ a4).mono ?_)
  rintro e4 w4 ⟨rfl, hg⟩
  have a5 := argK_bel a4 hg
  have b5 := argK_bel b4 hg
  have c5 := argK_bel c4 hg
  have B5 := bel_trans B4 hg
  clear a4 b4 c4 B4 hg HA
  go_wp2_with (go_at_call 16; fail)
  (with_reducible refine (HB.out _ _ a5).mono ?_)
  rintro e5 w5 ⟨rfl, hg⟩
  have a6 := argK_bel a5 hg
  have b6 := argK_bel b5 hg
  have c6 := argK_bel c5 hg
  have B6 := bel_trans B5 hg
  clear a5 b5 c5 B5 hg HB
  go_wp2_with (go_at_call 16; fail)
  (with_reducible refine (HC.out _ _ a6).mono ?_)
  rintro e6 w6 ⟨rfl, hg⟩
  have a7 := argK_bel a6 hg
  have b7 := argK_bel b6 hg
  have c7 := argK_bel c6 hg
  have B7 := bel_trans B6 hg
  clear a6 b6 c6 B6 hg HC
  go_wp2_with (go_at_call 16; fail)
  (with_reducible refine (HD.out _ _ b7).mono ?_)
  rintro e7 w7 ⟨rfl, hg⟩
  have a8 := argK_bel a7 hg
  have b8 := argK_bel b7 hg
  have c8 := argK_bel c7 hg
  have B8 := bel_trans B7 hg
  clear a7 b7 c7 B7 hg HD
  go_wp2_with (go_at_call 23; fail)
  (with_reducible refine (HE.out _ _ c8).mono ?_)
  rintro e8 w8 ⟨rfl, hg⟩
  have a9 := argK_bel a8 hg
  have b9 := argK_bel b8 hg
  have c9 := argK_bel c8 hg
  have B9 := bel_trans B8 hg
  clear a8 b8 c8 B8 hg HE
  go_wp2
  go_ret
  exact ⟨rfl, B9⟩

end Go.Proofs.Ytnjkbmkbifbgkaa
