import Derived.Test.YtbkhfebopmeanaaProg
import Derived.WalkKit
import Derived.WalkLawsBesides
import Derived.Outline
import Derived.Lib.Walk
import Derived.Deep.QuietTactic
import Derived.BigQuiet
import Derived.RowKit3
import Derived.Deep.LoopGhost
import Derived.Great.Walk
import Derived.Great.BuildSlice
import Derived.Laws.Rows
import Derived.Laws.Tables
import Derived.Laws.CopyOwn
import Derived.Lib.Hide
import Derived.Handy
import Derived.Test.YtbkhfebopmeanaaV2
import Derived.Test.YtbkhfebopmeanaaV3
import Derived.Test.YtbkhfebopmeanaaV4
import Derived.Test.YtbkhfebopmeanaaV5
import Derived.Test.YtbkhfebopmeanaaV6
import Derived.StillTailTactics
import Derived.Test.YtbkhfebopmeanaaV7
import Derived.Test.YtbkhfebopmeanaaV8
import Derived.Deep.Onto
import Derived.Test.YtbkhfebopmeanaaV9
import Derived.Test.YtbkhfebopmeanaaV10
import Derived.Test.YtbkhfebopmeanaaV11
import Derived.Test.YtbkhfebopmeanaaVI
namespace Go.Proofs.Ytbkhfebopmeanaa
open Go.RowKit
set_option maxHeartbeats 400000
set_option linter.unusedVariables false
instance : DecidableEq Rc := fun r s => if h : r.x = s.x ∧ r.y = s.y ∧ r.w = s.w ∧ r.h = s.h then .isTrue (by cases r; cases s; simp at h; simp [h]) else .isFalse (fun e => h (e ▸ ⟨rfl, rfl, rfl, rfl⟩))
theorem Gb {w W w1 : World} (h : Below w.heap.size w W) (hg : Below W.heap.size W w1) : Below w.heap.size w w1 := h.trans (hg.mono h.size)
theorem below_q {w w' : World} (h : ∃ q, w' = w.drewN q) : Below w.heap.size w w' := by obtain ⟨q, rfl⟩ := h; exact (Gr.drewN (Gr.refl w) q).1
def mL : List Rc := [⟨0, 0, 4, 1⟩, ⟨0, 1, 1, 2⟩, ⟨3, 1, 1, 2⟩, ⟨0, 3, 4, 1⟩]
def tL : List (Int × Int) := [(-1, 0), (0, 0), (-1, 1), (0, 1)]
/-- a list that the text itself writes. -/
theorem lit_row (w : World) (c : Array Value) (t : TypeId) {size n : Nat} (h : c.size = n * size) (hn : n ≤ maxLen) : (w.alloc (.cells c t)).ownsRow w.heap.size t size (.slice (some ⟨w.heap.size, 0, none⟩) n n) n c.toList :=
  ⟨Array.length_toList.trans h, .inr ⟨w.heap.size, n, c, rfl, Nat.le_refl _, heap_alloc_new w _, Nat.le_refl _, hn, h, by rw [← h, ← Array.length_toList, List.take_length]⟩⟩
set_option maxHeartbeats 8000000 in
theorem awk (w : World) : Calls Try.prog 12 #[] w fun e w' => e = .returned (.bool true) ∧ Below w.heap.size w w' := by
  have cv : ∀ w, Calls Try.prog 13 #[.agg #[.int .i64 0, .int .i64 0, .int .i64 4, .int .i64 4]] w fun e w' => e = .returned (.bool true) ∧ Below w.heap.size w w' := fun w => by have h := qValid 0 0 4 4 w (by omega) (by omega); rwa [show Rc.vld ⟨0, 0, 4, 4⟩ = true from by decide +kernel] at h
  have ce : ∀ w, Calls Try.prog 15 #[.agg #[.int .i64 0, .int .i64 0, .int .i64 4, .int .i64 4]] w fun e w' => e = .returned (.bool false) ∧ Below w.heap.size w w' := fun w => by have h := qEmpty 0 0 4 4 w (by omega) (by omega); rwa [show Rc.emp ⟨0, 0, 4, 4⟩ = false from by decide +kernel] at h
  have ca : ∀ w, Calls Try.prog 19 #[.agg #[.int .i64 0, .int .i64 0, .int .i64 4, .int .i64 4]] w fun e w' => e = .returned (.int .i64 16) ∧ Below w.heap.size w w' := fun w => by have h := qArea 0 0 4 4 w (by omega) (by omega); rwa [show Rc.area ⟨0, 0, 4, 4⟩ = 16 from by decide +kernel] at h
  have ch1 : ∀ w, Calls Try.prog 17 #[.agg #[.int .i64 0, .int .i64 0, .int .i64 4, .int .i64 4], .agg #[.int .i64 3, .int .i64 3]] w fun e w' => e = .returned (.bool true) ∧ Below w.heap.size w w' := fun w => by have h := qHas 0 0 4 4 3 3 w (by omega) (by omega); rwa [show Rc.has ⟨0, 0, 4, 4⟩ 3 3 = true from by decide +kernel] at h
  have ch2 : ∀ w, Calls Try.prog 17 #[.agg #[.int .i64 0, .int .i64 0, .int .i64 4, .int .i64 4], .agg #[.int .i64 4, .int .i64 3]] w fun e w' => e = .returned (.bool false) ∧ Below w.heap.size w w' := fun w => by have h := qHas 0 0 4 4 4 3 w (by omega) (by omega); rwa [show Rc.has ⟨0, 0, 4, 4⟩ 4 3 = false from by decide +kernel] at h
  have cm : ∀ w, Calls Try.prog 23 #[.agg #[.int .i64 0, .int .i64 0, .int .i64 4, .int .i64 4], .agg #[.int .i64 2, .int .i64 1, .int .i64 5, .int .i64 2]] w fun e w' => e = .returned (.agg #[.int .i64 2, .int .i64 1, .int .i64 2, .int .i64 2]) ∧ Below w.heap.size w w' := fun w => by have h := qMeet 0 0 4 4 2 1 5 2 w (by omega) (by omega) (by omega) (by omega); rwa [show Rc.meet ⟨0, 0, 4, 4⟩ ⟨2, 1, 5, 2⟩ = ⟨2, 1, 2, 2⟩ from by decide +kernel] at h
  have cj : ∀ w, Calls Try.prog 25 #[.agg #[.int .i64 0, .int .i64 0, .int .i64 4, .int .i64 4], .agg #[.int .i64 2, .int .i64 1, .int .i64 5, .int .i64 2]] w fun e w' => e = .returned (.agg #[.int .i64 0, .int .i64 0, .int .i64 7, .int .i64 4]) ∧ Below w.heap.size w w' := fun w => by have h := qJoin 0 0 4 4 2 1 5 2 w (by omega) (by omega) (by omega) (by omega); rwa [show Rc.join ⟨0, 0, 4, 4⟩ ⟨2, 1, 5, 2⟩ = ⟨0, 0, 7, 4⟩ from by decide +kernel] at h
  have cw1 : ∀ w, Calls Try.prog 21 #[.agg #[.int .i64 1, .int .i64 1, .int .i64 3, .int .i64 3], .agg #[.int .i64 0, .int .i64 0, .int .i64 4, .int .i64 4]] w fun e w' => e = .returned (.bool true) ∧ Below w.heap.size w w' := fun w => by have h := qWithin 1 1 3 3 0 0 4 4 w (by omega) (by omega) (by omega) (by omega); rwa [show Rc.wit ⟨1, 1, 3, 3⟩ ⟨0, 0, 4, 4⟩ = true from by decide +kernel] at h
  have cw2 : ∀ w, Calls Try.prog 21 #[.agg #[.int .i64 2, .int .i64 1, .int .i64 5, .int .i64 2], .agg #[.int .i64 0, .int .i64 0, .int .i64 4, .int .i64 4]] w fun e w' => e = .returned (.bool false) ∧ Below w.heap.size w w' := fun w => by have h := qWithin 2 1 5 2 0 0 4 4 w (by omega) (by omega) (by omega) (by omega); rwa [show Rc.wit ⟨2, 1, 5, 2⟩ ⟨0, 0, 4, 4⟩ = false from by decide +kernel] at h
  have cg1 : ∀ w, Calls Try.prog 29 #[.agg #[.int .i64 0, .int .i64 0, .int .i64 2, .int .i64 2], .int .i64 1] w fun e w' => e = .returned (.agg #[.int .i64 (-1), .int .i64 (-1), .int .i64 4, .int .i64 4]) ∧ Below w.heap.size w w' := fun w => by have h := qGrow 0 0 2 2 1 w (by omega) (by omega); rwa [show Rc.grow ⟨0, 0, 2, 2⟩ 1 = ⟨-1, -1, 4, 4⟩ from by decide +kernel] at h
  have cg2 : ∀ w, Calls Try.prog 29 #[.agg #[.int .i64 0, .int .i64 0, .int .i64 5, .int .i64 5], .int .i64 (-2)] w fun e w' => e = .returned (.agg #[.int .i64 2, .int .i64 2, .int .i64 1, .int .i64 1]) ∧ Below w.heap.size w w' := fun w => by have h := qGrow 0 0 5 5 (-2) w (by omega) (by omega); rwa [show Rc.grow ⟨0, 0, 5, 5⟩ (-2) = ⟨2, 2, 1, 1⟩ from by decide +kernel] at h
  have cmv : ∀ w, Calls Try.prog 27 #[.agg #[.int .i64 (-1048576), .int .i64 0, .int .i64 3, .int .i64 1], .agg #[.int .i64 (-1), .int .i64 0]] w fun e w' => e = .returned (.agg #[.int .i64 (-1048576), .int .i64 0, .int .i64 2, .int .i64 1]) ∧ Below w.heap.size w w' := fun w => by have h := qMove (-1048576) 0 3 1 (-1) 0 w (by omega) (by omega); rwa [show Rc.move ⟨-1048576, 0, 3, 1⟩ (-1) 0 = ⟨-1048576, 0, 2, 1⟩ from by decide +kernel] at h
  have co : ∀ w, Calls Try.prog 34 #[.agg #[.int .i64 65535, .int .i64 0]] w fun e w' => e = .returned (.agg #[.int .i64 1048560, .int .i64 0, .int .i64 16, .int .i64 16]) ∧ Below w.heap.size w w' := fun w => by have h := qOfTile 65535 0 w ; rwa [show Rc.tile 65535 0 = ⟨1048560, 0, 16, 16⟩ from by decide +kernel] at h
  have cmi : ∀ w, Calls Try.prog 32 #[.agg #[.int .i64 0, .int .i64 0, .int .i64 4, .int .i64 4], .agg #[.int .i64 1, .int .i64 1, .int .i64 2, .int .i64 2]] w fun e w' => ∃ v, e = .returned v ∧ Below w.heap.size w w' ∧ w'.ownsRow w.heap.size 23 4 v mL.length (cellsR mL) := fun w => by have h := qMinus 0 0 4 4 1 1 2 2 w (by omega) (by omega) (by omega) (by omega); rwa [show Rc.minus ⟨0, 0, 4, 4⟩ ⟨1, 1, 2, 2⟩ = mL from by decide +kernel] at h
  have cti : ∀ w, Calls Try.prog 37 #[.agg #[.int .i64 (-1), .int .i64 15, .int .i64 2, .int .i64 2]] w fun e w' => ∃ v, e = .returned v ∧ Below w.heap.size w w' ∧ w'.ownsRow w.heap.size 25 2 v tL.length (cellsP tL) := fun w => by have h := qTiles (-1) 15 2 2 w (by omega) (by omega); rwa [show Rc.tiles ⟨-1, 15, 2, 2⟩ = tL from by decide +kernel] at h
  have CV := Lib.hid cv
  have CE := Lib.hid ce
  have CA := Lib.hid ca
  have CH1 := Lib.hid ch1
  have CH2 := Lib.hid ch2
  have CM := Lib.hid cm
  have CJ := Lib.hid cj
  have CW1 := Lib.hid cw1
  have CW2 := Lib.hid cw2
  have CG1 := Lib.hid cg1
  have CG2 := Lib.hid cg2
  have CMV := Lib.hid cmv
  have CO := Lib.hid co
  have CMI := Lib.hid cmi
  have CTI := Lib.hid cti
  clear cv ce ca ch1 ch2 cm cj cw1 cw2 cg1 cg2 cmv co cmi cti
  go_enter Try.func12, Try.ntmps12
  go_wp2_with (first | (go_at_call 13; ((with_reducible refine (CV.out _).mono ?_)); rintro e w1 ⟨rfl, hg⟩; obtain ⟨hc, hf⟩ := bcell hg; have hz : w.heap.size + 1 < w1.heap.size := (by have := hg.size; (try simp at this); omega); have hz0 : w.heap.size < w1.heap.size := (by omega); have G : Below w.heap.size w w1 := (by first | exact Gb (by assumption) hg | (refine Gb ?_ hg; go_grown; done))) | (go_at_call 15; ((with_reducible refine (CE.out _).mono ?_)); rintro e w1 ⟨rfl, hg⟩; obtain ⟨hc, hf⟩ := bcell hg; have hz : w.heap.size + 1 < w1.heap.size := (by have := hg.size; (try simp at this); omega); have hz0 : w.heap.size < w1.heap.size := (by omega); have G : Below w.heap.size w w1 := (by first | exact Gb (by assumption) hg | (refine Gb ?_ hg; go_grown; done))) | (go_at_call 19; ((with_reducible refine (CA.out _).mono ?_)); rintro e w1 ⟨rfl, hg⟩; obtain ⟨hc, hf⟩ := bcell hg; have hz : w.heap.size + 1 < w1.heap.size := (by have := hg.size; (try simp at this); omega); have hz0 : w.heap.size < w1.heap.size := (by omega); have G : Below w.heap.size w w1 := (by first | exact Gb (by assumption) hg | (refine Gb ?_ hg; go_grown; done))) | (go_at_call 17; ((with_reducible refine (CH1.out _).mono ?_)); rintro e w1 ⟨rfl, hg⟩; obtain ⟨hc, hf⟩ := bcell hg; have hz : w.heap.size + 1 < w1.heap.size := (by have := hg.size; (try simp at this); omega); have hz0 : w.heap.size < w1.heap.size := (by omega); have G : Below w.heap.size w w1 := (by first | exact Gb (by assumption) hg | (refine Gb ?_ hg; go_grown; done))) | (go_at_call 17; ((with_reducible refine (CH2.out _).mono ?_)); rintro e w1 ⟨rfl, hg⟩; obtain ⟨hc, hf⟩ := bcell hg; have hz : w.heap.size + 1 < w1.heap.size := (by have := hg.size; (try simp at this); omega); have hz0 : w.heap.size < w1.heap.size := (by omega); have G : Below w.heap.size w w1 := (by first | exact Gb (by assumption) hg | (refine Gb ?_ hg; go_grown; done))) | (go_at_call 23; ((with_reducible refine (CM.out _).mono ?_)); rintro e w1 ⟨rfl, hg⟩; obtain ⟨hc, hf⟩ := bcell hg; have hz : w.heap.size + 1 < w1.heap.size := (by have := hg.size; (try simp at this); omega); have hz0 : w.heap.size < w1.heap.size := (by omega); have G : Below w.heap.size w w1 := (by first | exact Gb (by assumption) hg | (refine Gb ?_ hg; go_grown; done))) | (go_at_call 25; ((with_reducible refine (CJ.out _).mono ?_)); rintro e w1 ⟨rfl, hg⟩; obtain ⟨hc, hf⟩ := bcell hg; have hz : w.heap.size + 1 < w1.heap.size := (by have := hg.size; (try simp at this); omega); have hz0 : w.heap.size < w1.heap.size := (by omega); have G : Below w.heap.size w w1 := (by first | exact Gb (by assumption) hg | (refine Gb ?_ hg; go_grown; done))) | (go_at_call 21; ((with_reducible refine (CW1.out _).mono ?_)); rintro e w1 ⟨rfl, hg⟩; obtain ⟨hc, hf⟩ := bcell hg; have hz : w.heap.size + 1 < w1.heap.size := (by have := hg.size; (try simp at this); omega); have hz0 : w.heap.size < w1.heap.size := (by omega); have G : Below w.heap.size w w1 := (by first | exact Gb (by assumption) hg | (refine Gb ?_ hg; go_grown; done))) | (go_at_call 21; ((with_reducible refine (CW2.out _).mono ?_)); rintro e w1 ⟨rfl, hg⟩; obtain ⟨hc, hf⟩ := bcell hg; have hz : w.heap.size + 1 < w1.heap.size := (by have := hg.size; (try simp at this); omega); have hz0 : w.heap.size < w1.heap.size := (by omega); have G : Below w.heap.size w w1 := (by first | exact Gb (by assumption) hg | (refine Gb ?_ hg; go_grown; done))) | (go_at_call 29; ((with_reducible refine (CG1.out _).mono ?_)); rintro e w1 ⟨rfl, hg⟩; obtain ⟨hc, hf⟩ := bcell hg; have hz : w.heap.size + 1 < w1.heap.size := (by have := hg.size; (try simp at this); omega); have hz0 : w.heap.size < w1.heap.size := (by omega); have G : Below w.heap.size w w1 := (by first | exact Gb (by assumption) hg | (refine Gb ?_ hg; go_grown; done))) | (go_at_call 29; ((with_reducible refine (CG2.out _).mono ?_)); rintro e w1 ⟨rfl, hg⟩; obtain ⟨hc, hf⟩ := bcell hg; have hz : w.heap.size + 1 < w1.heap.size := (by have := hg.size; (try simp at this); omega); have hz0 : w.heap.size < w1.heap.size := (by omega); have G : Below w.heap.size w w1 := (by first | exact Gb (by assumption) hg | (refine Gb ?_ hg; go_grown; done))) | (go_at_call 27; ((with_reducible refine (CMV.out _).mono ?_)); rintro e w1 ⟨rfl, hg⟩; obtain ⟨hc, hf⟩ := bcell hg; have hz : w.heap.size + 1 < w1.heap.size := (by have := hg.size; (try simp at this); omega); have hz0 : w.heap.size < w1.heap.size := (by omega); have G : Below w.heap.size w w1 := (by first | exact Gb (by assumption) hg | (refine Gb ?_ hg; go_grown; done))) | (go_at_call 34; ((with_reducible refine (CO.out _).mono ?_)); rintro e w1 ⟨rfl, hg⟩; obtain ⟨hc, hf⟩ := bcell hg; have hz : w.heap.size + 1 < w1.heap.size := (by have := hg.size; (try simp at this); omega); have hz0 : w.heap.size < w1.heap.size := (by omega); have G : Below w.heap.size w w1 := (by first | exact Gb (by assumption) hg | (refine Gb ?_ hg; go_grown; done))) | (go_at_call 32; ((with_reducible refine (CMI.out _).mono ?_)); rintro e w1 ⟨v, rfl, hg, hown⟩; obtain ⟨hc, hf⟩ := bcell hg; have hz : w.heap.size + 1 < w1.heap.size := (by have := hg.size; (try simp at this); omega); have hz0 : w.heap.size < w1.heap.size := (by omega); have G : Below w.heap.size w w1 := (by first | exact Gb (by assumption) hg | (refine Gb ?_ hg; go_grown; done))) | (go_at_call 37; ((with_reducible refine (CTI.out _).mono ?_)); rintro e w1 ⟨v, rfl, hg, hown⟩; obtain ⟨hc, hf⟩ := bcell hg; have hz : w.heap.size + 1 < w1.heap.size := (by have := hg.size; (try simp at this); omega); have hz0 : w.heap.size < w1.heap.size := (by omega); have G : Below w.heap.size w w1 := (by first | exact Gb (by assumption) hg | (refine Gb ?_ hg; go_grown; done))) | (go_at_call 31; refine (t31 _ _ _ _ mL _ (by decide) (hown.alloc _) (lit_row _ _ _ (by decide) (by decide))).mono ?_; rintro e w1 ⟨rfl, hq⟩; have hg := below_q hq; obtain ⟨hc, hf⟩ := bcell hg; have hz : w.heap.size + 1 < w1.heap.size := (by have := hg.size; (try simp at this); omega); have hz0 : w.heap.size < w1.heap.size := (by omega); have G : Below w.heap.size w w1 := (by first | exact Gb (by assumption) hg | (refine Gb ?_ hg; go_grown; done))) | (go_at_call 36; refine (t36 _ _ _ _ tL _ (by decide) (hown.alloc _) (lit_row _ _ _ (by decide) (by decide))).mono ?_; rintro e w1 ⟨rfl, hq⟩; have hg := below_q hq; obtain ⟨hc, hf⟩ := bcell hg; have hz : w.heap.size + 1 < w1.heap.size := (by have := hg.size; (try simp at this); omega); have hz0 : w.heap.size < w1.heap.size := (by omega); have G : Below w.heap.size w w1 := (by first | exact Gb (by assumption) hg | (refine Gb ?_ hg; go_grown; done))))
  go_ret
  exact ⟨rfl, G⟩
end Go.Proofs.Ytbkhfebopmeanaa
