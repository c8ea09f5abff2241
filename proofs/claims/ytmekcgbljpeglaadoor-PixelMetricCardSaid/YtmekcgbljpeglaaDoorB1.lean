import Derived.Test.YtmekcgbljpeglaaDoorProg
import Derived.WalkKit
import Derived.WalkLawsBesides
import Derived.Outline
import Derived.Lib.Walk
import Derived.Deep.QuietTactic
import Derived.BigQuiet
import Derived.RowKit3
import Derived.Deep.LoopGhost
import Derived.Laws.Rows
import Derived.Laws.Tables
import Derived.Laws.CopyOwn
import Derived.Lib.Hide
import Derived.Handy
import Derived.Deep.Onto
import Derived.Test.YtmekcgbljpeglaaDoorA1
import Derived.Test.YtmekcgbljpeglaaDoorA2
import Derived.Test.YtmekcgbljpeglaaDoorQT
namespace Go.Proofs.YtmekcgbljpeglaaDoor
open Go.RowKit
set_option maxHeartbeats 400000
set_option linter.unusedVariables false

theorem k40 (x : Int) (w : World) : Calls Tryd.prog 40 #[.int .i64 x] w fun e w' => e = .returned (.int .i64 (un x)) ∧ w = w' := by
  go_enter Tryd.func40, Tryd.ntmps40
  go_wp2_with (go_at_call 48; refine (t16 _ _ _ _).mono ?_; rintro e w' ⟨rfl, rfl⟩)
  go_ret
  exact ⟨rfl, rfl⟩
theorem q40 (x : Int) (w : World) : Calls Tryd.prog 40 #[.int .i64 x] w fun e w' => e = .returned (.int .i64 (un x)) ∧ ∃ m, w' = w.drewN m := (k40 x w).mono fun e w' ⟨h, h'⟩ => ⟨h, 0, h'.symm⟩
theorem k13 (p : Px) (w : World) : Calls Tryd.prog 13 #[p.val] w fun e w' => e = .returned p.lim.val ∧ Below w.heap.size w w' := by
  obtain ⟨r, g, b, a⟩ := p
  unfold Px.val Px.lim
  dsimp only
  have C1 := Lib.hid (fun x w => q40 x w)
  go_enter Tryd.func13, Tryd.ntmps13
  go_wp2_with fail
  refine wp_region_quiet_tail 13 (by kernel_rfl) (by kernel_rfl) ?_
  simp only [List.take_succ_cons, List.take_zero, List.drop_succ_cons, List.drop_zero]
  repeat (quiet_step ((go_at_call 40; exact Calls.quiet_of (C1.out _ _))))
  refine wpQuiet_nil ?_
  intro _ hw'
  obtain ⟨nq2, hw''⟩ := hw'
  subst hw''
  go_wp2
  exact bodyPost_ret (v := .agg #[.int .i64 (un r), .int .i64 (un g), .int .i64 (un b), .int .i64 (un a)]) (by simp [results, Tryd.results13, go_sem, *]) rfl ⟨rfl, by go_grown; exact bel_dr (bel_al (bel_al (Below.refl _ _) _) _) _⟩

theorem k15 (p : Px) (w : World) : Calls Tryd.prog 15 #[p.val] w fun e w' => e = .returned p.pre.val ∧ Below w.heap.size w w' := by
  obtain ⟨r, g, b, a⟩ := p
  unfold Px.val Px.pre
  dsimp only
  have C1 := Lib.hid (fun x w => q40 x w)
  have C2 := Lib.hid (fun x y w => t19 x y w)
  go_enter Tryd.func15, Tryd.ntmps15
  go_wp2_with fail
  refine wp_region_quiet_tail 19 (by kernel_rfl) (by kernel_rfl) ?_
  simp only [List.take_succ_cons, List.take_zero, List.drop_succ_cons, List.drop_zero]
  repeat (quiet_step ((first | (go_at_call 40; exact Calls.quiet_of (C1.out _ _)) | (go_at_call 41; exact Calls.quiet_of (C2.out _ _ _)))))
  refine wpQuiet_nil ?_
  intro _ hw'
  obtain ⟨nq2, hw''⟩ := hw'
  subst hw''
  go_wp2
  exact bodyPost_ret (v := .agg #[.int .i64 (mulu r a), .int .i64 (mulu g a), .int .i64 (mulu b a), .int .i64 (un a)]) (by simp [results, Tryd.results15, go_sem, *]) rfl ⟨rfl, by go_grown; exact bel_dr (bel_al (bel_al (Below.refl _ _) _) _) _⟩

theorem k17 (p : Px) (w : World) : Calls Tryd.prog 17 #[p.val] w fun e w' => e = .returned p.str.val ∧ Below w.heap.size w w' := by
  obtain ⟨r, g, b, a⟩ := p
  unfold Px.val Px.str
  dsimp only
  have C1 := Lib.hid (fun x w => q40 x w)
  have C2 := Lib.hid (fun x y w => t21 x y w)
  go_enter Tryd.func17, Tryd.ntmps17
  go_wp2_with fail
  refine wp_region_quiet_tail 19 (by kernel_rfl) (by kernel_rfl) ?_
  simp only [List.take_succ_cons, List.take_zero, List.drop_succ_cons, List.drop_zero]
  repeat (quiet_step ((first | (go_at_call 40; exact Calls.quiet_of (C1.out _ _)) | (go_at_call 43; exact Calls.quiet_of (C2.out _ _ _)))))
  refine wpQuiet_nil ?_
  intro _ hw'
  obtain ⟨nq2, hw''⟩ := hw'
  subst hw''
  go_wp2
  exact bodyPost_ret (v := .agg #[.int .i64 (quou r a), .int .i64 (quou g a), .int .i64 (quou b a), .int .i64 (un a)]) (by simp [results, Tryd.results17, go_sem, *]) rfl ⟨rfl, by go_grown; exact bel_dr (bel_al (bel_al (Below.refl _ _) _) _) _⟩

end Go.Proofs.YtmekcgbljpeglaaDoor
