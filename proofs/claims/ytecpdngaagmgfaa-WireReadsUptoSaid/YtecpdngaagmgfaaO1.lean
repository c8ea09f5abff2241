import Derived.Test.YtecpdngaagmgfaaRows
import Derived.WalkKit
import Derived.ProofKit
import Derived.OpenShut
import Derived.Lib.SmallJoins
import Derived.Deep.Slices
import Derived.Deep.SlicePairs
import Derived.Carry
import Derived.WideKeyArgs
import Derived.Below
import Derived.ChangeSame
import Derived.SizedLaws
import Derived.JoinedCond
import Derived.Test.YtecpdngaagmgfaaB3
import Derived.Test.YtecpdngaagmgfaaC7
import Derived.Test.YtecpdngaagmgfaaL5
namespace Go.Proofs.Ytecpdngaagmgfaa
open Go.RowKit
set_option maxHeartbeats 400000
set_option linter.unusedVariables false

open Go.ChangeShapes Go.WideShapes Go.ChangeAt Go.RowKit Go.Joins
open Go.ChangeMaps (open_string)
theorem own : ownKnob Try.prog.godebug = none := by kernel_rfl
theorem laidOut : laidOutB Try.prog = true := by kernel_rfl
theorem cells3 : Try.prog.cellsOf 3 = 1 := by kernel_rfl
theorem cells25 : Try.prog.cellsOf 25 = 4 := by kernel_rfl
theorem cells39 : Try.prog.cellsOf 39 = 2 := by kernel_rfl
theorem bytes3 : Try.prog.bytesOf 3 = 8 := by kernel_rfl
theorem bytes39 : Try.prog.bytesOf 39 = 16 := by kernel_rfl
theorem addp (g o i : Nat) : (⟨g, o, none⟩ : Addr).add i = ⟨g, o + i, none⟩ := by
  unfold Addr.add
  split <;> simp_all
theorem cell_some {W : World} {a : Addr} {v : Value} (h : W.cell? a = some v) : a.block < W.heap.size ∧ a.spot = none := by
  unfold World.cell? at h
  split at h
  · rename_i c e f hh
    constructor
    · exact (Array.getElem?_eq_some_iff.1 hh).1
    · split at h
      · cases h
      · rename_i hs
        cases e2 : a.spot
        · rfl
        · rw [e2] at hs
          exact absurd rfl hs
  · cases h
set_option maxRecDepth 100000 in
/-- a list of numbers, from the cell that holds it. -/
theorem openL {H : Type} {enc : TypeId × Value → H} {W : World} {fuel : Nat} {v : Value} {x : DataW H × List MemPlace} (h : DataW.trod enc Try.prog W 0 (fun _ => true) true fuel 23 [v] = some x) :
    ∃ l : List Int, argI W W.heap.size v l ∧ (∀ z ∈ l, i64 z) ∧ (∀ n, (∀ m ∈ x.1.weights Try.prog 23, m ≤ n) → l.length * 8 ≤ n) := by
  rcases Go.Deep.open_slice Try.underlying23 h with ⟨hcs, hx⟩ | ⟨a, len, cap, m, n, D, Pl, hcs, _, hl, hm, hmm, hxx, hx⟩
  · simp at hcs
    subst hcs
    exact ⟨[], argI_nil _ _, fun z hz => (by cases hz), fun n _ => (by simp)⟩
  · simp at hcs
    subst hcs
    have hlm : len ≤ m := by rw [hmm]; simp; omega
    rw [cells3] at hx
    have each : ∀ i, i < len → ∃ z : Int, W.cell? (a.add i) = some (.int .i64 z) ∧ i64 z := by
      intro i hi
      obtain ⟨cs', h1, h2⟩ := hx i (by omega)
      obtain ⟨z, e0, _, w0⟩ := DataW.trod_int Try.underlying3 h2
      subst e0
      obtain ⟨_, _, hcell⟩ := World.cells?_some h1
      have := hcell 0 (by omega)
      exact ⟨z, by simpa [Addr.add] using this, bounds_i64 w0⟩
    obtain ⟨f, hfn⟩ : ∃ f : Nat → Int, ∀ i, i < len → W.cell? (a.add i) = some (.int .i64 (f i)) ∧ i64 (f i) :=
      ⟨fun i => if hi : i < len then Classical.choose (each i hi) else 0, fun i hi => by
        have := Classical.choose_spec (each i hi)
        simp only [hi, dif_pos]
        exact this⟩
    refine ⟨(List.range len).map f, ⟨some a, cap, by simp, fun hlen => ?_⟩, ?_, ?_⟩
    · simp at hlen
      have zz := cell_some (hfn 0 hlen).1
      obtain ⟨g, o, s⟩ := a
      have hs : s = none := by simpa [Addr.add] using zz.2
      subst hs
      refine ⟨g, o, rfl, by simpa [Addr.add] using zz.1, fun k hk => ?_⟩
      simp at hk
      have e : ((List.range len).map f).getD k 0 = f k := by simp [hk]
      rw [e]
      have q := (hfn k hk).1
      rw [addp] at q
      exact q
    · intro z hz
      obtain ⟨i, hi, rfl⟩ := List.mem_map.1 hz
      exact (hfn i (List.mem_range.1 hi)).2
    · intro n hn
      rw [hxx] at hn
      have := hn _ (by rw [DataW.weights]; simp only [Try.underlying23]; exact List.mem_cons_self ..)
      rw [bytes3] at this
      simp only [List.length_map, List.length_range] at this ⊢
      omega
set_option maxRecDepth 100000 in
/-- a list of calls, from the cell that holds it. -/
theorem openT {H : Type} {enc : TypeId × Value → H} {W : World} {fuel : Nat} {v : Value} {x : DataW H × List MemPlace} (h : DataW.trod enc Try.prog W 0 (fun _ => true) true fuel 32 [v] = some x) :
    ∃ L : List (Int × Int), argT W W.heap.size v L ∧ allT L ∧ L.length ≤ maxLen ∧ (∀ n, (∀ m ∈ x.1.weights Try.prog 32, m ≤ n) → L.length * 16 ≤ n) := by
  rcases Go.Deep.open_slice_pairs Try.underlying32 Try.underlying39 cells39 rfl rfl cells3 cells3 h with ⟨hcs, hx⟩ | ⟨a, len, cap, m, n, V0, V1, D0, D1, P0, P1, hcs, _, hl, hm, hmm, hxx, hx⟩
  · simp at hcs
    subst hcs
    exact ⟨[], ⟨none, 0, rfl, fun h => absurd h (Nat.lt_irrefl 0)⟩, fun k hk => absurd hk (Nat.not_lt_zero k), Nat.zero_le _, fun n _ => (by simp)⟩
  · simp at hcs
    subst hcs
    have hlm : len ≤ m := by rw [hmm]; simp; omega
    have each : ∀ i, i < len → ∃ z : Int × Int, W.cell? (a.add (i * 2)) = some (.int .i64 z.1) ∧ W.cell? (a.add (i * 2 + 1)) = some (.int .i64 z.2) ∧ i64 z.1 ∧ i64 z.2 := by
      intro i hi
      obtain ⟨h0, h1, h2, h3⟩ := hx i (by omega)
      obtain ⟨z0, e0, _, w0⟩ := DataW.trod_int Try.underlying3 h2
      obtain ⟨z1, e1, _, w1⟩ := DataW.trod_int Try.underlying3 h3
      simp only [List.cons.injEq, and_true] at e0 e1
      rw [e0] at h0
      rw [e1] at h1
      exact ⟨(z0, z1), h0, h1, bounds_i64 w0, bounds_i64 w1⟩
    obtain ⟨f, hfn⟩ : ∃ f : Nat → Int × Int, ∀ i, i < len → W.cell? (a.add (i * 2)) = some (.int .i64 (f i).1) ∧ W.cell? (a.add (i * 2 + 1)) = some (.int .i64 (f i).2) ∧ i64 (f i).1 ∧ i64 (f i).2 :=
      ⟨fun i => if hi : i < len then Classical.choose (each i hi) else (0, 0), fun i hi => by
        have := Classical.choose_spec (each i hi)
        simp only [hi, dif_pos]
        exact this⟩
    refine ⟨(List.range len).map f, ⟨some a, cap, by simp, fun hlen => ?_⟩, ?_, ?_, ?_⟩
    · simp at hlen
      have zz := cell_some (hfn 0 hlen).1
      obtain ⟨g, o, s⟩ := a
      have hs : s = none := by simpa [Addr.add] using zz.2
      subst hs
      refine ⟨g, o, rfl, by simpa [Addr.add] using zz.1, fun k hk => ?_⟩
      simp at hk
      have e : ((List.range len).map f).getD k (0, 0) = f k := by simp [hk]
      rw [e]
      have q := hfn k hk
      rw [addp, addp] at q
      exact ⟨q.1, q.2.1⟩
    · intro k hk
      simp at hk
      have e : ((List.range len).map f).getD k (0, 0) = f k := by simp [hk]
      rw [e]
      exact (hfn k hk).2.2
    · simp only [List.length_map, List.length_range]
      omega
    · intro n hn
      rw [hxx] at hn
      have := hn _ (by rw [DataW.weights]; simp only [Try.underlying32]; exact List.mem_cons_self ..)
      rw [bytes39] at this
      simp only [List.length_map, List.length_range] at this ⊢
      omega
/-- the values, opened. -/
theorem openV {H : Type} {enc : TypeId × Value → H} {W : World} {r : Reach} {b0 : Nat} {v : Value} {d : DataW H} {p : List MemPlace}
    (hv : Value.okWide Try.prog W r b0 25 v) (h : DataW.Trod enc Try.prog W 0 (fun _ => true) true 25 v d p) :
    ∃ (n : Nat) (i : Int) (s : List UInt8) (u : Value) (l : List Int), v = .agg #[.int .u64 (n : Int), .int .i64 i, .string (mkS s), u] ∧ n < 18446744073709551616 ∧ i64 i ∧ argI W W.heap.size u l ∧ (∀ z ∈ l, i64 z) ∧
      (∀ n, (∀ m ∈ d.weights Try.prog 25, m ≤ n) → s.length ≤ n ∧ l.length * 8 ≤ n) := by
  obtain ⟨c0, c1, c2, c3, y0, y1, y2, y3, m, rfl, rfl, rfl, h0, h1, h2, h3⟩ := open_agg4 Try.underlying25 (by kernel_rfl) cells25 hv h
  obtain ⟨x, e0, rfl, w0⟩ := DataW.trod_int Try.underlying22 h0
  obtain ⟨y, e1, rfl, w1⟩ := DataW.trod_int Try.underlying3 h1
  obtain ⟨s, e2, rfl, w2⟩ := DataW.trod_string Try.underlying9 h2
  obtain ⟨l, hl, hz, hw⟩ := openL h3
  simp at e0 e1 e2
  subst e0 e1 e2
  have b0 := bounds_u64 w0
  obtain ⟨x, rfl⟩ := Int.eq_ofNat_of_zero_le b0.1
  refine ⟨x, y, s.data.toList, c3, l, by cases s; simp [mkS], by omega, bounds_i64 w1, hl, hz, fun n hn => ⟨?_, hw n (fun m hm => hn m ?_)⟩⟩
  · exact hn _ (by rw [DataW.weights]; simp [Try.underlying25, DataW.weightsEach, DataW.weights])
  · rw [DataW.weights]
    simp [Try.underlying25, DataW.weightsEach, hm]
theorem openS {H : Type} {enc : TypeId × Value → H} {W : World} {r : Reach} {b0 : Nat} {v : Value} {d : DataW H} {p : List MemPlace}
    (hv : Value.okWide Try.prog W r b0 9 v) (h : DataW.Trod enc Try.prog W 0 (fun _ => true) true 9 v d p) :
    ∃ s : List UInt8, v = .string (mkS s) ∧ d = .lit (.string s) := by
  obtain ⟨s, rfl, rfl, rfl, hmax⟩ := open_string Try.underlying9 hv h
  exact ⟨s.data.toList, by cases s; simp [mkS], rfl⟩
theorem openU {H : Type} {enc : TypeId × Value → H} {W : World} {r : Reach} {b0 : Nat} {v : Value} {d : DataW H} {p : List MemPlace}
    (hv : Value.okWide Try.prog W r b0 53 v) (h : DataW.Trod enc Try.prog W 0 (fun _ => true) true 53 v d p) : ∃ n : Nat, v = .int .u64 (n : Int) ∧ n < 18446744073709551616 := by
  obtain ⟨x, rfl, rfl, rfl, wx⟩ := open_int Try.underlying53 hv h
  have b0 := bounds_u64 wx
  obtain ⟨n, rfl⟩ := Int.eq_ofNat_of_zero_le b0.1
  exact ⟨n, rfl, by omega⟩
theorem openC {H : Type} {enc : TypeId × Value → H} {W : World} {r : Reach} {b0 : Nat} {v : Value} {d : DataW H} {p : List MemPlace}
    (hv : Value.okWide Try.prog W r b0 32 v) (h : DataW.Trod enc Try.prog W 0 (fun _ => true) true 32 v d p) : ∃ L : List (Int × Int), argT W W.heap.size v L ∧ allT L ∧ L.length ≤ maxLen ∧ (∀ n, (∀ m ∈ d.weights Try.prog 32, m ≤ n) → L.length * 16 ≤ n) := by
  obtain ⟨a0, len0, cap0, rfl⟩ := okWide_slice Try.underlying32 hv
  obtain ⟨fuel, hf⟩ := h
  exact openT (by simpa [Value.cells] using hf)
/-- an argument reads in a later world as it did. -/
theorem stays {H : Type} {enc : TypeId × Value → H} {W W' : World} {t : TypeId} {v : Value} {d : DataW H} {ps : List MemPlace} (hr : Try.prog.readableRec t = true) (hrow : t < Try.prog.types.size) (h : DataW.Trod enc Try.prog W 0 (fun _ => true) true t v d ps) (hb : Below W.heap.size W W') (hlt : ∀ x ∈ ps, x.block < W.heap.size) (sp : Nat → Bool) (hs : ∀ x ∈ ps, sp x.block = true) : DataW.Trod enc Try.prog W' 0 sp true t v d ps :=
  WideElems.Trod_stays laidOut hr hrow h (fun x hx => hb.same (hlt x hx)) hs
/-- what a call owes that leaves all old memory as it was. -/
theorem post_old {H : Type} {enc : TypeId × Value → H} {P : Program} {f : Func} {s : ChangeSpec} {apart fresh handsOn again : Bool} {W W' : World} {args : Array Value} {v : Value} {ds gs : List (DataW H)} {ps : List MemPlace}
    (hW : DataW.Whole enc P f.params.toList s.vars apart W args.toList ds gs ps)
    (hres : ∀ (b : Nat) (sp : Nat → Bool) (hd : Bool), DataW.TrodAll enc P W' b sp hd f.resultTypes.toList (v.resultList f.resultTypes.size) (s.fn H (ds ++ gs)).results [])
    (hargs : ∀ sp : Nat → Bool, (∀ p ∈ ps, sp p.block = true) → DataW.TrodAll enc P W' 0 sp true f.params.toList args.toList (s.fn H (ds ++ gs)).args ps)
    (hvars : ∀ sp : Nat → Bool, DataW.TrodVars enc P W' sp s.vars (s.fn H (ds ++ gs)).vars [])
    (hb : Below W.heap.size W W')
    (hok : ∀ (j : Nat) (t : TypeId) (r : Value), f.resultTypes[j]? = some t → (v.resultList f.resultTypes.size)[j]? = some r → Value.okWide P W' .any 0 t r) :
    s.post enc P f apart fresh handsOn again W args v W' := by
  have hlt : ∀ p ∈ ps, p.block < W.heap.size := fun p hp => hW.lt p hp
  have hold : ∀ p ∈ ps, (fun b => decide (b < W.heap.size)) p.block = true := fun p hp => by simpa using hlt p hp
  have hz := hW
  obtain ⟨_, _, _, _, _, hz, hn⟩ := hz
  refine ⟨ds, gs, ps, [], ps, [], hW, hres _ _ _, hargs _ hold, hvars _, World.keptBut_mono (fun p hp => ⟨hp, Or.inr (by simpa using hp)⟩) (hb.frame (· ∈ ps)), fun _ => ?_⟩
  refine ⟨hok, _, _, ([] ++ ps) ++ [], ⟨[] ++ ps, [], trodAll_append (hargs _ (fun _ _ => rfl)) (hres _ _ _), hvars _, rfl, ?_, ?_⟩, ?_⟩
  · intro b off hp
    have hin : MemPlace.cell b off ∈ ps := by simpa using hp
    rw [hb.frozen (hlt _ hin)]
    exact hz b off hin
  · intro ha
    have := hn ha
    simpa using this
  · intro p hp _
    simpa using hp


end Go.Proofs.Ytecpdngaagmgfaa
