/- For every input the statement about the landed code returns true: (P8.9) of matrices of small multiples of One the determinant of the product is the product of the determinants; and the chapter's examples hold. Conditions: none. -/
import Derived.Test.YtmafmpgpaioniaaRows
import Derived.Test.YtmafmpgpaioniaaO1
import Derived.Test.YtmafmpgpaioniaaL9
namespace Go.Proofs.Ytmafmpgpaioniaa
open Go.ChangeShapes Go.WideShapes Go.ChangeAt Go.RowKit Go.Joins
set_option linter.unusedVariables false
set_option maxRecDepth 100000 in
theorem matrixDetsLifted (os : Os) (started : os.Started) (H : Type) (enc : TypeId × Value → H) :
    ReturnsInHanded {} Try.checked os 9 .any (Rows.matrixDetsSpec.pre6 enc Try.prog Try.f9 Rows.matrixDetsRow.domain false) (Rows.matrixDetsSpec.post enc Try.prog Try.f9 false true false false) := by
  refine returnsInHanded_of_change (C := Try.checked) own started (by kernel_rfl) Try.func9
    (ChangeSpec.witness6 (enc := enc) (C := Try.checked) false ⟨#[], #[.agg #[.int .i8 0, .int .i8 0, .int .i8 0, .int .i8 0, .int .i8 0, .int .i8 0, .int .i8 0, .int .i8 0, .int .i8 0], .agg #[.int .i8 0, .int .i8 0, .int .i8 0, .int .i8 0, .int .i8 0, .int .i8 0, .int .i8 0, .int .i8 0, .int .i8 0]], []⟩ 8 (by kernel_rfl) (by kernel_rfl) (by kernel_rfl) (by kernel_rfl)) ?_
  intro W base args ds gs before hval0 hW hcnd _
  have hW' := hW
  obtain ⟨p, q, hA0, hV, rfl, hfz, hnd⟩ := hW
  have hA : DataW.TrodAll enc Try.prog W 0 (fun _ => true) true Try.f9.params.toList args.toList ds p := hA0
  rw [Try.params9] at hA
  obtain ⟨v0, vs0, d0, ds0, p0, q0, hargs, rfl, rfl, h0, r0⟩ := trodAll_cons hA
  obtain ⟨v1, vs1, d1, ds1, p1, q1, rfl, rfl, rfl, h1, r1⟩ := trodAll_cons r0
  obtain ⟨rfl, rfl, rfl⟩ := trodAll_nil r1
  obtain rfl : args = #[v0, v1] := by cases args; simp_all
  obtain ⟨rfl, rfl⟩ := trodVars_none hV
  obtain ⟨x0, e0⟩ := openB h0
  obtain ⟨x1, e1⟩ := openB h1
  clear hA0 hval0
  simp only [List.append_nil] at hW'
  have hlt : ∀ y ∈ _, MemPlace.block y < W.heap.size := fun y hy => hW'.lt y hy
  have s0 := fun W' (hb : Below W.heap.size W W') sp (hs : ∀ x ∈ p0, sp (MemPlace.block x) = true) => stays (by kernel_rfl) (of_decide_eq_true (by kernel_rfl)) h0 hb (fun x hx => hW'.lt x (by simp [hx])) sp hs
  have s1 := fun W' (hb : Below W.heap.size W W') sp (hs : ∀ x ∈ p1, sp (MemPlace.block x) = true) => stays (by kernel_rfl) (of_decide_eq_true (by kernel_rfl)) h1 hb (fun x hx => hW'.lt x (by simp [hx])) sp hs
  subst e0
  subst e1
  refine (l9 x0 x1 W).mono fun e W' ⟨he, hg⟩ => ?_
  subst he
  refine ⟨_, rfl, post_old hW' (fun _ _ _ => (trodAll_cons_mk (shut_bool Try.underlying4 _) trodAll_mk0)) (fun sp hs => ?_) (fun _ => rfl) hg (ok_one (by kernel_rfl) rfl (okWide_bool_mk Try.underlying4 _))⟩
  have := (trodAll_cons_mk (s0 _ hg sp (fun x hx => hs x (by simp [hx]))) (trodAll_cons_mk (s1 _ hg sp (fun x hx => hs x (by simp [hx]))) trodAll_mk0))
  simp only [List.append_nil] at this
  exact this
theorem matrixDetsHolds : Rows.MatrixDetsSaid :=
  OpenClaim.holds_of_wide 9 Try.f9 rfl rfl rfl rfl rfl rfl rfl ⟨rfl, rfl, rfl, rfl, rfl⟩ rfl rfl rfl rfl rfl (by kernel_rfl) Try.func9 (by kernel_rfl)
    (of_decide_eq_true (by kernel_rfl)) (by unfold Func.isWrapper; first | (rw [if_pos (by decide +kernel)]; kernel_rfl) | (rw [if_neg (by decide +kernel)]; exact ⟨rfl, rfl⟩))
    (fun os started H enc _ => matrixDetsLifted os started H enc)
#print axioms matrixDetsHolds
end Go.Proofs.Ytmafmpgpaioniaa
