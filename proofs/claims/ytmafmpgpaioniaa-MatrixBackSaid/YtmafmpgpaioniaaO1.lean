import Derived.Test.YtmafmpgpaioniaaRows
import Derived.WalkKit
import Derived.ProofKit
import Derived.OpenShut
import Derived.Lib.SmallJoins
import Derived.Deep.Slices
import Derived.Carry
import Derived.WideKeyArgs
import Derived.Below
import Derived.ChangeSame
import Derived.Test.YtmafmpgpaioniaaP2
namespace Go.Proofs.Ytmafmpgpaioniaa
set_option maxHeartbeats 400000
set_option linter.unusedVariables false

open Go.ChangeShapes Go.WideShapes Go.ChangeAt Go.RowKit Go.Joins
theorem own : ownKnob Try.prog.godebug = none := by kernel_rfl
theorem laidOut : laidOutB Try.prog = true := by kernel_rfl
theorem cells3 : Try.prog.cellsOf 3 = 1 := by kernel_rfl
theorem cells37 : Try.prog.cellsOf 37 = 1 := by kernel_rfl
def arr8 (n : Nat) (f : Nat → Int) : Array Value := ((List.range n).map fun j => Value.int .i8 (f j)).toArray

theorem cells22 : Try.prog.cellsOf 22 = 9 := by kernel_rfl
set_option maxRecDepth 100000 in
theorem openM {H : Type} {enc : TypeId × Value → H} {W : World} {v : Value} {d : DataW H} {p : List MemPlace}
    (h : DataW.Trod enc Try.prog W 0 (fun _ => true) true 22 v d p) : ∃ m : Nat → Int, v = .agg (arr 9 m) := by
  obtain ⟨fuel, hf⟩ := h
  obtain ⟨xs, k, _, _, hl, hxl, hg⟩ := DataW.trod_array Try.underlying22 hf
  rw [cells22] at hl
  rw [cells3] at hg
  have each : ∀ i, i < 9 → ∃ x : Int, v.cells.toList[i]? = some (.int .i64 x) := by
    intro i hi
    have g := hg i hi
    rw [Nat.mul_one] at g
    obtain ⟨c, hc⟩ : ∃ c, v.cells.toList[i]? = some c := ⟨_, List.getElem?_eq_getElem (by rw [hl]; exact hi)⟩
    have e : (v.cells.toList.drop i).take 1 = [c] := by
      rw [List.take_one, List.head?_drop, hc]; rfl
    rw [e] at g
    obtain ⟨y, hy⟩ : ∃ y, xs[i]? = some y := ⟨_, List.getElem?_eq_getElem (by rw [hxl]; exact hi)⟩
    rw [hy] at g
    obtain ⟨x, e0, _, _⟩ := DataW.trod_int Try.underlying3 g
    simp at e0
    exact ⟨x, by rw [hc, e0]⟩
  obtain ⟨f, hfn⟩ : ∃ f : Nat → Int, ∀ i, i < 9 → v.cells.toList[i]? = some (.int .i64 (f i)) :=
    ⟨fun i => if hi : i < 9 then Classical.choose (each i hi) else 0, fun i hi => by
      have := Classical.choose_spec (each i hi)
      simp only [hi, dif_pos]
      exact this⟩
  refine ⟨f, ?_⟩
  cases v with
  | agg a =>
    congr 1
    apply Array.ext
    · simpa [Value.cells, arr] using hl
    · intro i h1 h2
      have h3 : i < 9 := by simpa [arr] using h2
      have := hfn i h3
      simp [Value.cells, h1] at this
      simp [arr, this]
  | _ => simp [Value.cells] at hl

theorem cells29 : Try.prog.cellsOf 29 = 3 := by kernel_rfl
set_option maxRecDepth 100000 in
theorem openV {H : Type} {enc : TypeId × Value → H} {W : World} {v : Value} {d : DataW H} {p : List MemPlace}
    (h : DataW.Trod enc Try.prog W 0 (fun _ => true) true 29 v d p) : ∃ m : Nat → Int, v = .agg (arr 3 m) := by
  obtain ⟨fuel, hf⟩ := h
  obtain ⟨xs, k, _, _, hl, hxl, hg⟩ := DataW.trod_array Try.underlying29 hf
  rw [cells29] at hl
  rw [cells3] at hg
  have each : ∀ i, i < 3 → ∃ x : Int, v.cells.toList[i]? = some (.int .i64 x) := by
    intro i hi
    have g := hg i hi
    rw [Nat.mul_one] at g
    obtain ⟨c, hc⟩ : ∃ c, v.cells.toList[i]? = some c := ⟨_, List.getElem?_eq_getElem (by rw [hl]; exact hi)⟩
    have e : (v.cells.toList.drop i).take 1 = [c] := by
      rw [List.take_one, List.head?_drop, hc]; rfl
    rw [e] at g
    obtain ⟨y, hy⟩ : ∃ y, xs[i]? = some y := ⟨_, List.getElem?_eq_getElem (by rw [hxl]; exact hi)⟩
    rw [hy] at g
    obtain ⟨x, e0, _, _⟩ := DataW.trod_int Try.underlying3 g
    simp at e0
    exact ⟨x, by rw [hc, e0]⟩
  obtain ⟨f, hfn⟩ : ∃ f : Nat → Int, ∀ i, i < 3 → v.cells.toList[i]? = some (.int .i64 (f i)) :=
    ⟨fun i => if hi : i < 3 then Classical.choose (each i hi) else 0, fun i hi => by
      have := Classical.choose_spec (each i hi)
      simp only [hi, dif_pos]
      exact this⟩
  refine ⟨f, ?_⟩
  cases v with
  | agg a =>
    congr 1
    apply Array.ext
    · simpa [Value.cells, arr] using hl
    · intro i h1 h2
      have h3 : i < 3 := by simpa [arr] using h2
      have := hfn i h3
      simp [Value.cells, h1] at this
      simp [arr, this]
  | _ => simp [Value.cells] at hl

theorem cells38 : Try.prog.cellsOf 38 = 9 := by kernel_rfl
set_option maxRecDepth 100000 in
theorem openB {H : Type} {enc : TypeId × Value → H} {W : World} {v : Value} {d : DataW H} {p : List MemPlace}
    (h : DataW.Trod enc Try.prog W 0 (fun _ => true) true 38 v d p) : ∃ m : Nat → Int, v = .agg (arr8 9 m) := by
  obtain ⟨fuel, hf⟩ := h
  obtain ⟨xs, k, _, _, hl, hxl, hg⟩ := DataW.trod_array Try.underlying38 hf
  rw [cells38] at hl
  rw [cells37] at hg
  have each : ∀ i, i < 9 → ∃ x : Int, v.cells.toList[i]? = some (.int .i8 x) := by
    intro i hi
    have g := hg i hi
    rw [Nat.mul_one] at g
    obtain ⟨c, hc⟩ : ∃ c, v.cells.toList[i]? = some c := ⟨_, List.getElem?_eq_getElem (by rw [hl]; exact hi)⟩
    have e : (v.cells.toList.drop i).take 1 = [c] := by
      rw [List.take_one, List.head?_drop, hc]; rfl
    rw [e] at g
    obtain ⟨y, hy⟩ : ∃ y, xs[i]? = some y := ⟨_, List.getElem?_eq_getElem (by rw [hxl]; exact hi)⟩
    rw [hy] at g
    obtain ⟨x, e0, _, _⟩ := DataW.trod_int Try.underlying37 g
    simp at e0
    exact ⟨x, by rw [hc, e0]⟩
  obtain ⟨f, hfn⟩ : ∃ f : Nat → Int, ∀ i, i < 9 → v.cells.toList[i]? = some (.int .i8 (f i)) :=
    ⟨fun i => if hi : i < 9 then Classical.choose (each i hi) else 0, fun i hi => by
      have := Classical.choose_spec (each i hi)
      simp only [hi, dif_pos]
      exact this⟩
  refine ⟨f, ?_⟩
  cases v with
  | agg a =>
    congr 1
    apply Array.ext
    · simpa [Value.cells, arr8] using hl
    · intro i h1 h2
      have h3 : i < 9 := by simpa [arr8] using h2
      have := hfn i h3
      simp [Value.cells, h1] at this
      simp [arr8, this]
  | _ => simp [Value.cells] at hl
/-- an argument reads in a later world as it did. -/
theorem stays {H : Type} {enc : TypeId × Value → H} {W W' : World} {t : TypeId} {v : Value} {d : DataW H} {ps : List MemPlace} (hr : Try.prog.readableRec t = true) (hrow : t < Try.prog.types.size) (h : DataW.Trod enc Try.prog W 0 (fun _ => true) true t v d ps) (hb : Below W.heap.size W W') (hlt : ∀ x ∈ ps, x.block < W.heap.size) (sp : Nat → Bool) (hs : ∀ x ∈ ps, sp x.block = true) : DataW.Trod enc Try.prog W' 0 sp true t v d ps :=
  WideElems.Trod_stays laidOut hr hrow h (fun x hx => hb.same (hlt x hx)) hs
/-- what a call owes that leaves all old memory as it was. -/
theorem post_old {H : Type} {enc : TypeId × Value → H} {P : Program} {f : Func} {s : ChangeSpec} {apart fresh handsOn again : Bool} {W W' : World} {args : Array Value} {v : Value} {ds gs : List (DataW H)} {ps : List MemPlace}
    (hW : DataW.Whole enc P f.params.toList s.vars apart W args.toList ds gs ps)
    (hres : ∀ (b : Nat) (sp : Nat → Bool) (hd : Bool), DataW.TrodAll enc P W' b sp hd f.resultTypes.toList (v.resultList f.resultTypes.size) (s.fn H (ds ++ gs)).results [])
    (hargs : ∀ sp : Nat → Bool, (∀ p ∈ ps, sp p.block = true) → DataW.TrodAll enc P W' 0 sp true f.params.toList args.toList (s.fn H (ds ++ gs)).args ps)
    (hvars : ∀ sp : Nat → Bool, DataW.TrodVars enc P W' sp s.vars (s.fn H (ds ++ gs)).vars [])
    (hb : Below W.heap.size W W')
    (hok : ∀ (j : Nat) (t : TypeId) (r : Value), f.resultTypes[j]? = some t → (v.resultList f.resultTypes.size)[j]? = some r → Value.okWide P W' .any 0 t r) :
    s.post enc P f apart fresh handsOn again W args v W' := by
  have hlt : ∀ p ∈ ps, p.block < W.heap.size := fun p hp => hW.lt p hp
  have hold : ∀ p ∈ ps, (fun b => decide (b < W.heap.size)) p.block = true := fun p hp => by simpa using hlt p hp
  have hz := hW
  obtain ⟨_, _, _, _, _, hz, hn⟩ := hz
  refine ⟨ds, gs, ps, [], ps, [], hW, hres _ _ _, hargs _ hold, hvars _, World.keptBut_mono (fun p hp => ⟨hp, Or.inr (by simpa using hp)⟩) (hb.frame (· ∈ ps)), fun _ => ?_⟩
  refine ⟨hok, _, _, ([] ++ ps) ++ [], ⟨[] ++ ps, [], trodAll_append (hargs _ (fun _ _ => rfl)) (hres _ _ _), hvars _, rfl, ?_, ?_⟩, ?_⟩
  · intro b off hp
    have hin : MemPlace.cell b off ∈ ps := by simpa using hp
    rw [hb.frozen (hlt _ hin)]
    exact hz b off hin
  · intro ha
    have := hn ha
    simpa using this
  · intro p hp _
    simpa using hp

end Go.Proofs.Ytmafmpgpaioniaa
