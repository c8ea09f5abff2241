/- For every input the statement about the landed code returns true: Open of a frame in which one byte of the payload or of the checksum is replaced returns ErrSum. Conditions: none. -/
import Derived.Test.YtogkojedglpekaaRows
import Derived.Test.YtogkojedglpekaaO1
import Derived.Test.YtogkojedglpekaaL7
namespace Go.Proofs.Ytogkojedglpekaa
open Go.ChangeShapes Go.WideShapes Go.ChangeAt Go.RowKit Go.Joins
set_option linter.unusedVariables false
set_option maxRecDepth 100000 in
theorem digestToldContract (H : Type) (enc : TypeId × Value → H) (W : World) (base : Nat) (args : Array Value) (ds gs : List (DataW H)) (before : List MemPlace)
    (hval0 : ∀ (j : Nat) t v, Try.f7.params[j]? = some t → args[j]? = some v → Value.okWide Try.prog W .any base t v)
    (hW : DataW.Whole enc Try.prog Try.f7.params.toList Rows.digestToldSpec.vars false W args.toList ds gs before) (hz : (DataW.weightsEach Try.prog (Try.f7.params.toList ++ Rows.digestToldSpec.plain.varTypes Try.prog) (ds ++ gs)).all (· ≤ reachBytes) = true) :
    Calls Try.prog 7 args W fun e W' => ∃ v, e = .returned v ∧ Rows.digestToldSpec.post enc Try.prog Try.f7 false true false false W args v W' := by
  have hval : ∀ (j : Nat) t v, Try.f7.params[j]? = some t → args[j]? = some v → Value.okWide Try.prog W .any base t v := hval0
  have hW' := hW
  obtain ⟨p, q, hA0, hV, rfl, hfz, hnd⟩ := hW
  have hA : DataW.TrodAll enc Try.prog W 0 (fun _ => true) true Try.f7.params.toList args.toList ds p := hA0
  rw [Try.params7] at hA hval
  obtain ⟨v0, vs0, d0, ds0, p0, q0, hargs, rfl, rfl, h0, r0⟩ := trodAll_cons hA
  obtain ⟨v1, vs1, d1, ds1, p1, q1, rfl, rfl, rfl, h1, r1⟩ := trodAll_cons r0
  obtain ⟨v2, vs2, d2, ds2, p2, q2, rfl, rfl, rfl, h2, r2⟩ := trodAll_cons r1
  obtain ⟨rfl, rfl, rfl⟩ := trodAll_nil r2
  obtain rfl : args = #[v0, v1, v2] := by cases args; simp_all
  obtain ⟨rfl, rfl⟩ := trodVars_none hV
  obtain ⟨t0, e0, f0, z0⟩ := openS (hval 0 9 v0 rfl rfl) h0
  obtain ⟨n1, e1, b1⟩ := openH (hval 1 34 v1 rfl rfl) h1
  obtain ⟨c2, e2⟩ := openB (hval 2 5 v2 rfl rfl) h2
  clear hA0 hval0
  simp only [List.append_nil] at hW'
  have hlt : ∀ y ∈ _, MemPlace.block y < W.heap.size := fun y hy => hW'.lt y hy
  have y0 := z0 reachBytes (fun m hm => by simpa using List.all_eq_true.1 hz m (DataW.weights_mem_each (j := 0) (t := 9) (by rfl) rfl m hm))
  have hR : reachBytes = 140737488351232 := rfl
  have s0 := fun W' (hb : Below W.heap.size W W') sp (hs : ∀ x ∈ p0, sp (MemPlace.block x) = true) => stays (by kernel_rfl) (of_decide_eq_true (by kernel_rfl)) h0 hb (fun x hx => hW'.lt x (by simp [hx])) sp hs
  have s1 := fun W' (hb : Below W.heap.size W W') sp (hs : ∀ x ∈ p1, sp (MemPlace.block x) = true) => stays (by kernel_rfl) (of_decide_eq_true (by kernel_rfl)) h1 hb (fun x hx => hW'.lt x (by simp [hx])) sp hs
  have s2 := fun W' (hb : Below W.heap.size W W') sp (hs : ∀ x ∈ p2, sp (MemPlace.block x) = true) => stays (by kernel_rfl) (of_decide_eq_true (by kernel_rfl)) h2 hb (fun x hx => hW'.lt x (by simp [hx])) sp hs
  subst e0
  subst e1
  subst e2
  refine (l7 t0 n1 c2 W (by omega) b1).mono fun e W' ⟨he, hg⟩ => ?_
  subst he
  refine ⟨_, rfl, post_old hW' (fun _ _ _ => (trodAll_cons_mk (shut_bool Try.underlying4 _) trodAll_mk0)) (fun sp hs => ?_) (fun _ => rfl) hg (ok_one (by kernel_rfl) rfl (okWide_bool_mk Try.underlying4 _))⟩
  have := (trodAll_cons_mk (s0 _ hg sp (fun x hx => hs x (by simp [hx]))) (trodAll_cons_mk (s1 _ hg sp (fun x hx => hs x (by simp [hx]))) (trodAll_cons_mk (s2 _ hg sp (fun x hx => hs x (by simp [hx]))) trodAll_mk0)))
  simp only [List.append_nil] at this
  exact this
set_option maxRecDepth 100000 in
theorem digestToldLifted (os : Os) (started : os.Started) (H : Type) (enc : TypeId × Value → H) :
    ReturnsInHanded {} Try.checked os 7 .any (Rows.digestToldSpec.pre6 enc Try.prog Try.f7 Rows.digestToldRow.domain false) (Rows.digestToldSpec.post enc Try.prog Try.f7 false true false false) := by
  refine returnsInHanded_of_change_sized (C := Try.checked) own started (by kernel_rfl) Try.func7
    (ChangeSpec.witness6 (enc := enc) (C := Try.checked) false ⟨#[], #[.string .empty, .int .u16 0, .int .u8 0], []⟩ 8 (by kernel_rfl) (by kernel_rfl) (by kernel_rfl) (by kernel_rfl)) ?_
  intro W base args ds gs before hval hW _ hz _
  exact digestToldContract H enc W base args ds gs before hval hW hz
theorem digestToldHolds : Rows.DigestToldSaid :=
  OpenClaim.holds_of_wide 7 Try.f7 rfl rfl rfl rfl rfl rfl rfl ⟨rfl, rfl, rfl, rfl, rfl⟩ rfl rfl rfl rfl rfl (by kernel_rfl) Try.func7 (by kernel_rfl)
    (of_decide_eq_true (by kernel_rfl)) (by unfold Func.isWrapper; first | (rw [if_pos (by decide +kernel)]; kernel_rfl) | (rw [if_neg (by decide +kernel)]; exact ⟨rfl, rfl⟩))
    (fun os started H enc _ => digestToldLifted os started H enc)
#print axioms digestToldHolds
end Go.Proofs.Ytogkojedglpekaa
