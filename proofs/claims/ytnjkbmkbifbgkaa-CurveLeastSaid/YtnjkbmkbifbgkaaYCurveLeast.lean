/- For every input the statement about the landed code returns true: (P7.9) Back of a rising curve is the least place that reaches a value, and at most the place whose value was given; of any other list it is -1; and the chapter's examples hold. Conditions: none. -/
import Derived.Test.YtnjkbmkbifbgkaaRows
import Derived.Test.YtnjkbmkbifbgkaaO1
import Derived.Test.YtnjkbmkbifbgkaaL10
namespace Go.Proofs.Ytnjkbmkbifbgkaa
open Go.ChangeShapes Go.WideShapes Go.ChangeAt Go.RowKit Go.Joins
set_option linter.unusedVariables false
set_option maxRecDepth 100000 in
theorem curveLeastLifted (os : Os) (started : os.Started) (H : Type) (enc : TypeId × Value → H) :
    ReturnsInHanded {} Try.checked os 10 .any (Rows.curveLeastSpec.pre6 enc Try.prog Try.f10 Rows.curveLeastRow.domain false) (Rows.curveLeastSpec.post enc Try.prog Try.f10 false true false false) := by
  refine returnsInHanded_of_change (C := Try.checked) own started (by kernel_rfl) Try.func10
    (ChangeSpec.witness6 (enc := enc) (C := Try.checked) false ⟨#[], #[.slice none 0 0, .int .i64 0, .int .i64 0], []⟩ 8 (by kernel_rfl) (by kernel_rfl) (by kernel_rfl) (by kernel_rfl)) ?_
  intro W base args ds gs before hval0 hW hcnd _
  have hval : ∀ (j : Nat) t v, Try.f10.params[j]? = some t → args[j]? = some v → Value.okWide Try.prog W .any base t v := hval0
  have hW' := hW
  obtain ⟨p, q, hA0, hV, rfl, hfz, hnd⟩ := hW
  have hA : DataW.TrodAll enc Try.prog W 0 (fun _ => true) true Try.f10.params.toList args.toList ds p := hA0
  rw [Try.params10] at hA hval
  obtain ⟨v0, vs0, d0, ds0, p0, q0, hargs, rfl, rfl, h0, r0⟩ := trodAll_cons hA
  obtain ⟨v1, vs1, d1, ds1, p1, q1, rfl, rfl, rfl, h1, r1⟩ := trodAll_cons r0
  obtain ⟨v2, vs2, d2, ds2, p2, q2, rfl, rfl, rfl, h2, r2⟩ := trodAll_cons r1
  obtain ⟨rfl, rfl, rfl⟩ := trodAll_nil r2
  obtain rfl : args = #[v0, v1, v2] := by cases args; simp_all
  obtain ⟨rfl, rfl⟩ := trodVars_none hV
  obtain ⟨L0, a0⟩ := openK (hval 0 22 v0 rfl rfl) h0
  obtain ⟨x1, e1⟩ := openI (hval 1 3 v1 rfl rfl) h1
  obtain ⟨x2, e2⟩ := openI (hval 2 3 v2 rfl rfl) h2
  clear hA0 hval0
  simp only [List.append_nil] at hW'
  have hlt : ∀ y ∈ _, MemPlace.block y < W.heap.size := fun y hy => hW'.lt y hy
  have s0 := fun W' (hb : Below W.heap.size W W') sp (hs : ∀ x ∈ p0, sp (MemPlace.block x) = true) => stays (by kernel_rfl) (of_decide_eq_true (by kernel_rfl)) h0 hb (fun x hx => hW'.lt x (by simp [hx])) sp hs
  have s1 := fun W' (hb : Below W.heap.size W W') sp (hs : ∀ x ∈ p1, sp (MemPlace.block x) = true) => stays (by kernel_rfl) (of_decide_eq_true (by kernel_rfl)) h1 hb (fun x hx => hW'.lt x (by simp [hx])) sp hs
  have s2 := fun W' (hb : Below W.heap.size W W') sp (hs : ∀ x ∈ p2, sp (MemPlace.block x) = true) => stays (by kernel_rfl) (of_decide_eq_true (by kernel_rfl)) h2 hb (fun x hx => hW'.lt x (by simp [hx])) sp hs
  subst e1
  subst e2
  refine (l10 v0 L0 x1 x2 W a0).mono fun e W' ⟨he, hg⟩ => ?_
  subst he
  refine ⟨_, rfl, post_old hW' (fun _ _ _ => (trodAll_cons_mk (shut_bool Try.underlying4 _) trodAll_mk0)) (fun sp hs => ?_) (fun _ => rfl) hg (ok_one (by kernel_rfl) rfl (okWide_bool_mk Try.underlying4 _))⟩
  have := (trodAll_cons_mk (s0 _ hg sp (fun x hx => hs x (by simp [hx]))) (trodAll_cons_mk (s1 _ hg sp (fun x hx => hs x (by simp [hx]))) (trodAll_cons_mk (s2 _ hg sp (fun x hx => hs x (by simp [hx]))) trodAll_mk0)))
  simp only [List.append_nil] at this
  exact this
theorem curveLeastHolds : Rows.CurveLeastSaid :=
  OpenClaim.holds_of_wide 10 Try.f10 rfl rfl rfl rfl rfl rfl rfl ⟨rfl, rfl, rfl, rfl, rfl⟩ rfl rfl rfl rfl rfl (by kernel_rfl) Try.func10 (by kernel_rfl)
    (of_decide_eq_true (by kernel_rfl)) (by unfold Func.isWrapper; first | (rw [if_pos (by decide +kernel)]; kernel_rfl) | (rw [if_neg (by decide +kernel)]; exact ⟨rfl, rfl⟩))
    (fun os started H enc _ => curveLeastLifted os started H enc)
#print axioms curveLeastHolds
end Go.Proofs.Ytnjkbmkbifbgkaa
