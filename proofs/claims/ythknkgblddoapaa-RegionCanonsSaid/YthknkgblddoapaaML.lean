import Derived.Test.YthknkgblddoapaaRows
import Derived.WalkKit
import Derived.ProofKit
import Derived.OpenShut
import Derived.Lib.SmallJoins
import Derived.Deep.Slices
import Derived.Carry
import Derived.WideKeyArgs
import Derived.Test.YthknkgblddoapaaProg
import Derived.WalkLawsBesides
import Derived.Outline
import Derived.Lib.Walk
import Derived.Deep.QuietTactic
import Derived.BigQuiet
import Derived.RowKit3
import Derived.Deep.LoopGhost
import Derived.Great.Walk
import Derived.Great.BuildSlice
import Derived.Laws.Rows
import Derived.Laws.Tables
import Derived.Laws.CopyOwn
import Derived.Lib.Hide
import Derived.Handy
import Derived.Deep.Onto
import Derived.Below
import Derived.ChangeSame
import Derived.RegionTactic
import Derived.ChangeAlike
import Derived.StillTailTactics
import Derived.Test.YthknkgblddoapaaMK
import Derived.Test.YthknkgblddoapaaMG
import Derived.Test.YthknkgblddoapaaMC
namespace Go.Proofs.Ythknkgblddoapaa

section
set_option maxHeartbeats 400000
set_option linter.unusedVariables false

open Go.ChangeShapes Go.WideShapes Go.ChangeAt Go.RowKit Go.Joins
theorem own : ownKnob Try.prog.godebug = none := by kernel_rfl
theorem laidOut : laidOutB Try.prog = true := by kernel_rfl
theorem cells33 : Try.prog.cellsOf 33 = 4 := by kernel_rfl
theorem cells29 : Try.prog.cellsOf 29 = 2 := by kernel_rfl
theorem cells3 : Try.prog.cellsOf 3 = 1 := by kernel_rfl
theorem addp (g o i : Nat) : (⟨g, o, none⟩ : Addr).add i = ⟨g, o + i, none⟩ := by
  unfold Addr.add
  split <;> simp_all
theorem cell_some {W : World} {a : Addr} {v : Value} (h : W.cell? a = some v) : a.block < W.heap.size ∧ a.spot = none := by
  unfold World.cell? at h
  split at h
  · rename_i c e f hh
    constructor
    · exact (Array.getElem?_eq_some_iff.1 hh).1
    · split at h
      · cases h
      · rename_i hs
        cases e2 : a.spot
        · rfl
        · rw [e2] at hs
          exact absurd rfl hs
  · cases h
set_option maxRecDepth 100000 in
/-- a rectangle, from the cells that hold it. -/
theorem trodR {H : Type} {enc : TypeId × Value → H} {W : World} {base : Nat} {spare : Nat → Bool} {held : Bool} {n : Nat} {cs : List Value} {x : DataW H × List MemPlace} (h : DataW.trod enc Try.prog W base spare held n 33 cs = some x) :
    ∃ t : Rc, cs = [.int .i64 t.x, .int .i64 t.y, .int .i64 t.w, .int .i64 t.h] ∧ t.big := by
  obtain ⟨xs, k, _, _, hl, hxl, hf⟩ := DataW.trod_struct Try.underlying33 h
  rw [cells33] at hl
  match cs, hl with
  | [a, b, c, d], _ =>
    match xs, hxl with
    | [y0, y1, y2, y3], _ =>
      have g0 := hf 0 _ rfl
      have g1 := hf 1 _ rfl
      have g2 := hf 2 _ rfl
      have g3 := hf 3 _ rfl
      simp [cells3] at g0 g1 g2 g3
      obtain ⟨n0, e0, _, w0⟩ := DataW.trod_int Try.underlying3 g0
      obtain ⟨n1, e1, _, w1⟩ := DataW.trod_int Try.underlying3 g1
      obtain ⟨n2, e2, _, w2⟩ := DataW.trod_int Try.underlying3 g2
      obtain ⟨n3, e3, _, w3⟩ := DataW.trod_int Try.underlying3 g3
      simp at e0 e1 e2 e3
      subst e0 e1 e2 e3
      exact ⟨⟨n0, n1, n2, n3⟩, rfl, ⟨bounds_i64 w0, bounds_i64 w1⟩⟩
set_option maxRecDepth 100000 in
/-- an argument that is a slice of rectangles, opened. -/
theorem openS {H : Type} {enc : TypeId × Value → H} {W : World} {r : Reach} {b0 : Nat} {v : Value} {d : DataW H} {p : List MemPlace}
    (hv : Value.okWide Try.prog W r b0 22 v) (h : DataW.Trod enc Try.prog W 0 (fun _ => true) true 22 v d p) :
    ∃ L : List Rc, argR W W.heap.size v L ∧ capOk v ∧ ∀ t ∈ L, t.big := by
  obtain ⟨a0, len0, cap0, rfl⟩ := okWide_slice Try.underlying22 hv
  obtain ⟨fuel, hf⟩ := h
  rcases Go.Deep.open_slice Try.underlying22 hf with ⟨hcs, _⟩ | ⟨a, len, cap, m, n, D, Pl, hcs, _, hl, hm, hmm, _, hx⟩
  · simp [Value.cells] at hcs
    obtain ⟨rfl, rfl, rfl⟩ := hcs
    exact ⟨[], argR_nil _ _, capOk_nil, fun t ht => by cases ht⟩
  · simp [Value.cells] at hcs
    obtain ⟨rfl, rfl, rfl⟩ := hcs
    have hlm : len0 ≤ m := by rw [hmm]; simp; omega
    rw [cells33] at hx
    have each : ∀ i, i < len0 → ∃ t : Rc, (∀ j, j < 4 → W.cell? ((a.add (i * 4)).add j) = [Value.int .i64 t.x, .int .i64 t.y, .int .i64 t.w, .int .i64 t.h][j]?) ∧ t.big := by
      intro i hi
      obtain ⟨cs', h1, h2⟩ := hx i (by omega)
      obtain ⟨_, _, hcell⟩ := World.cells?_some h1
      obtain ⟨t, rfl, hb⟩ := trodR h2
      exact ⟨t, hcell, hb⟩
    obtain ⟨f, hfn⟩ : ∃ f : Nat → Rc, ∀ i, i < len0 → (∀ j, j < 4 → W.cell? ((a.add (i * 4)).add j) = [Value.int .i64 (f i).x, .int .i64 (f i).y, .int .i64 (f i).w, .int .i64 (f i).h][j]?) ∧ (f i).big :=
      ⟨fun i => if hi : i < len0 then Classical.choose (each i hi) else Rc.zero, fun i hi => by
        have := Classical.choose_spec (each i hi)
        simp only [hi, dif_pos]
        exact this⟩
    refine ⟨(List.range len0).map f, ?_, fun ao n' c' e => ?_, ?_⟩
    · refine ⟨some a, cap0, by simp, fun hlen => ?_⟩
      simp at hlen
      have z := (hfn 0 hlen).1 0 (by omega)
      have zz := cell_some z
      obtain ⟨g, o, s⟩ := a
      have hs : s = none := by simpa [Addr.add] using zz.2
      subst hs
      refine ⟨g, o, rfl, by simpa [Addr.add] using zz.1, fun k hk => ?_⟩
      simp at hk
      have e : ((List.range len0).map f).getD k Rc.zero = f k := by simp [hk]
      rw [e]
      have q := (hfn k hk).1
      have q0 := q 0 (by omega)
      have q1 := q 1 (by omega)
      have q2 := q 2 (by omega)
      have q3 := q 3 (by omega)
      rw [addp, addp] at q0 q1 q2 q3
      exact ⟨q0, q1, q2, q3⟩
    · injection e with e1 e2 e3
      subst e2
      subst e3
      exact ⟨hl, hm⟩
    · intro t ht
      obtain ⟨i, hi, rfl⟩ := List.mem_map.1 ht
      exact (hfn i (List.mem_range.1 hi)).2
end

section
open Go.RowKit
set_option maxHeartbeats 400000
set_option linter.unusedVariables false

open Go.ChangeShapes Go.WideShapes Go.ChangeAt Go.RowKit Go.Joins
set_option maxRecDepth 100000 in
/-- a point by value, opened. -/
theorem openP {H : Type} {enc : TypeId × Value → H} {W : World} {r : Reach} {b0 base : Nat} {spare : Nat → Bool} {held : Bool} {v : Value} {d : DataW H} {p : List MemPlace}
    (hv : Value.okWide Try.prog W r b0 29 v) (h : DataW.Trod enc Try.prog W base spare held 29 v d p) :
    ∃ x y : Int, v = .agg #[.int .i64 x, .int .i64 y] := by
  obtain ⟨c0, c1, y0, y1, m, rfl, rfl, rfl, h0, h1⟩ := open_agg2 Try.underlying29 (by kernel_rfl) cells29 hv h
  obtain ⟨x, e0, rfl, w0⟩ := DataW.trod_int Try.underlying3 h0
  obtain ⟨y, e1, rfl, w1⟩ := DataW.trod_int Try.underlying3 h1
  simp at e0 e1
  subst e0 e1
  exact ⟨x, y, rfl⟩
/-- an argument reads in a later world as it did. -/
theorem stays {H : Type} {enc : TypeId × Value → H} {W W' : World} {t : TypeId} {v : Value} {d : DataW H} {ps : List MemPlace} (hr : Try.prog.readableRec t = true) (hrow : t < Try.prog.types.size) (h : DataW.Trod enc Try.prog W 0 (fun _ => true) true t v d ps) (hb : Below W.heap.size W W') (hlt : ∀ x ∈ ps, x.block < W.heap.size) (sp : Nat → Bool) (hs : ∀ x ∈ ps, sp x.block = true) : DataW.Trod enc Try.prog W' 0 sp true t v d ps :=
  WideElems.Trod_stays laidOut hr hrow h (fun x hx => hb.same (hlt x hx)) hs
/-- what a call owes that leaves all old memory as it was. -/
theorem post_old {H : Type} {enc : TypeId × Value → H} {P : Program} {f : Func} {s : ChangeSpec} {apart fresh handsOn again : Bool} {W W' : World} {args : Array Value} {v : Value} {ds gs : List (DataW H)} {ps : List MemPlace}
    (hW : DataW.Whole enc P f.params.toList s.vars apart W args.toList ds gs ps)
    (hres : ∀ (b : Nat) (sp : Nat → Bool) (hd : Bool), DataW.TrodAll enc P W' b sp hd f.resultTypes.toList (v.resultList f.resultTypes.size) (s.fn H (ds ++ gs)).results [])
    (hargs : ∀ sp : Nat → Bool, (∀ p ∈ ps, sp p.block = true) → DataW.TrodAll enc P W' 0 sp true f.params.toList args.toList (s.fn H (ds ++ gs)).args ps)
    (hvars : ∀ sp : Nat → Bool, DataW.TrodVars enc P W' sp s.vars (s.fn H (ds ++ gs)).vars [])
    (hb : Below W.heap.size W W')
    (hok : ∀ (j : Nat) (t : TypeId) (r : Value), f.resultTypes[j]? = some t → (v.resultList f.resultTypes.size)[j]? = some r → Value.okWide P W' .any 0 t r) :
    s.post enc P f apart fresh handsOn again W args v W' := by
  have hlt : ∀ p ∈ ps, p.block < W.heap.size := fun p hp => hW.lt p hp
  have hold : ∀ p ∈ ps, (fun b => decide (b < W.heap.size)) p.block = true := fun p hp => by simpa using hlt p hp
  have hz := hW
  obtain ⟨_, _, _, _, _, hz, hn⟩ := hz
  refine ⟨ds, gs, ps, [], ps, [], hW, hres _ _ _, hargs _ hold, hvars _, World.keptBut_mono (fun p hp => ⟨hp, Or.inr (by simpa using hp)⟩) (hb.frame (· ∈ ps)), fun _ => ?_⟩
  refine ⟨hok, _, _, ([] ++ ps) ++ [], ⟨[] ++ ps, [], trodAll_append (hargs _ (fun _ _ => rfl)) (hres _ _ _), hvars _, rfl, ?_, ?_⟩, ?_⟩
  · intro b off hp
    have hin : MemPlace.cell b off ∈ ps := by simpa using hp
    rw [hb.frozen (hlt _ hin)]
    exact hz b off hin
  · intro ha
    have := hn ha
    simpa using this
  · intro p hp _
    simpa using hp
end

section
open Go.RowKit
set_option maxHeartbeats 400000
set_option linter.unusedVariables false

def Lof : List Rc := [⟨0, 0, 2, 1⟩, ⟨0, 1, 3, 1⟩, ⟨1, 2, 2, 1⟩]
theorem ev1 : buildF (partF [⟨0, 0, 2, 2⟩, ⟨1, 1, 2, 2⟩]) [] 0 = [⟨0, 0, 2, 1⟩, ⟨0, 1, 3, 1⟩, ⟨1, 2, 2, 1⟩] := by decide +kernel
theorem ev2 : buildF (partF [⟨0, 0, 3, 3⟩]) (partF [⟨1, 1, 1, 1⟩]) 2 = [⟨0, 0, 3, 1⟩, ⟨0, 1, 1, 1⟩, ⟨2, 1, 1, 1⟩, ⟨0, 2, 3, 1⟩] := by decide +kernel
theorem ev3 : buildF (tilF (partF [⟨15, 0, 2, 1⟩])) [] 0 = flat [⟨0, 1, [(0, 2)]⟩] := by decide +kernel
theorem ev3b : tilesR (flat [⟨0, 1, [(0, 2)]⟩]) [⟨0, 1, [(0, 2)]⟩] = [(0, 0), (1, 0)] := by decide +kernel
theorem ev4 : buildF (partF [⟨0, 0, 2, 2⟩]) (partF [⟨1, 1, 2, 2⟩]) 0 = [⟨0, 0, 2, 1⟩, ⟨0, 1, 3, 1⟩, ⟨1, 2, 2, 1⟩] := by decide +kernel
theorem ev5 : buildF (partF [⟨0, 0, 2, 2⟩]) (partF [⟨1, 1, 2, 2⟩]) 1 = [⟨1, 1, 1, 1⟩] := by decide +kernel
theorem ev6 : rightF [⟨0, 0, 2, 1⟩, ⟨0, 1, 3, 1⟩, ⟨1, 2, 2, 1⟩] = true := by decide +kernel
theorem ev6b : rightF [⟨0, 0, 2, 2⟩, ⟨1, 1, 2, 2⟩] = false := by decide +kernel
theorem ev7 : wsum (buildF (partF [⟨0, 0, 2, 2⟩, ⟨1, 1, 2, 2⟩]) [] 0) = 7 := by decide +kernel
theorem ev8 : boxF (partF [⟨0, 0, 2, 2⟩, ⟨1, 1, 2, 2⟩]) = ⟨0, 0, 3, 3⟩ := by decide +kernel
theorem ev9 : setB (partF [⟨0, 0, 2, 2⟩]) 1 0 = true := by decide +kernel
theorem ev9b : setB (partF [⟨0, 0, 2, 2⟩]) 2 0 = false := by decide +kernel
theorem ev10 : buildF (growF (partF [⟨0, 0, 1, 1⟩]) (min 1048576 (max 1 0))) [] 0 = [⟨-1, -1, 3, 3⟩] := by decide +kernel
theorem ev3c : BandsOk [⟨0, 1, [(0, 2)]⟩] := ⟨List.pairwise_singleton _ _, fun b hb => by rw [List.mem_singleton] at hb; subst hb; exact ⟨by simp, by simp, List.pairwise_singleton _ _, fun r hr => by rw [List.mem_singleton] at hr; subst hr; simp⟩⟩
end

section
open Go.RowKit
set_option maxHeartbeats 400000
set_option linter.unusedVariables false

theorem bel2 {w W W' W2 : World} (h : Below w.heap.size w W) (hg : Below W'.heap.size W' W2) (hb : Below W.heap.size W W') : Below w.heap.size w W2 :=
  (h.trans (hb.mono h.size)).trans (hg.mono (Nat.le_trans h.size hb.size))
theorem argR_one {W : World} {B g n : Nat} {t : Rc} {L : List Rc} (h : argR W B (.slice (some ⟨g, 0, none⟩) n n) (t :: L)) : W.cell? ⟨g, 0, none⟩ = some (.int .i64 t.x) ∧ W.cell? ⟨g, 1, none⟩ = some (.int .i64 t.y) ∧ W.cell? ⟨g, 2, none⟩ = some (.int .i64 t.w) ∧ W.cell? ⟨g, 3, none⟩ = some (.int .i64 t.h) := by
  obtain ⟨ao, cap, e, h⟩ := h
  injection e with e1 e2 e3
  obtain ⟨g', o, e', _, hc⟩ := h (by simp)
  rw [← e1] at e'
  injection e' with e'
  injection e' with e4 e5
  subst e4
  subst e5
  have := hc 0 (by simp)
  simp only [Nat.zero_mul, Nat.zero_add] at this
  exact this
theorem d14 (v : Value) (L : List Rc) (w : World) (r : Bool) (hr : rightF L = r) (h : argR w w.heap.size v L) (cu : capOk v) (hl : L.length ≤ 4194304) : Calls Try.prog 14 #[v] w fun e w' => e = .returned (.bool r) ∧ Below w.heap.size w w' :=
  (c14 v L w h cu hl).mono fun _ _ ⟨he, hw⟩ => ⟨by rw [he, hr], hw⟩
theorem d25 (u : Value) (A : List Rc) (w : World) (r : Int) (hr : wsum (buildF (partF A) [] 0) = r) (ga : argR w w.heap.size u A) (cu : capOk u) : Calls Try.prog 25 #[u] w fun e w' => e = .returned (.int .i64 r) ∧ Below w.heap.size w w' :=
  (c25 u A w ga cu).mono fun _ _ ⟨he, hw⟩ => ⟨by rw [he, hr], hw⟩
theorem d27 (u : Value) (A : List Rc) (w : World) (r : Rc) (hr : boxF (partF A) = r) (ga : argR w w.heap.size u A) (cu : capOk u) : Calls Try.prog 27 #[u] w fun e w' => e = .returned (.agg #[.int .i64 r.x, .int .i64 r.y, .int .i64 r.w, .int .i64 r.h]) ∧ Below w.heap.size w w' :=
  (c27 u A w ga cu).mono fun _ _ ⟨he, hw⟩ => ⟨by rw [he, hr]; rfl, hw⟩
theorem d23 (u : Value) (A : List Rc) (px py : Int) (w : World) (r : Bool) (hr : setB (partF A) px py = r) (ga : argR w w.heap.size u A) (cu : capOk u) : Calls Try.prog 23 #[u, .agg #[.int .i64 px, .int .i64 py]] w fun e w' => e = .returned (.bool r) ∧ Below w.heap.size w w' :=
  (c23 u A px py w ga cu).mono fun _ _ ⟨he, hw⟩ => ⟨by rw [he, hr], hw⟩
set_option maxHeartbeats 8000000 in
set_option maxRecDepth 100000 in
theorem c16 (w : World) : Calls Try.prog 16 #[] w fun e w' => e = .returned (.bool true) ∧ Below w.heap.size w w' := by
  have hW : Below w.heap.size w w := Below.refl _ _
  go_enter Try.func16, Try.ntmps16
  go_wp2_with (go_at_call 43; fail)
  (with_reducible refine (c43 0 0 2 2 _).mono ?_)
  rintro e w1 ⟨ga, rfl, hg, hga⟩
  replace hW := bel2 hW hg (by go_grown)
  clear hg
  go_wp2_with (go_at_call 43; fail)
  (with_reducible refine (c43 1 1 2 2 _).mono ?_)
  rintro e w2 ⟨gb, rfl, hg, hgb⟩
  replace hga := argR_up2 hga hg (by go_grown)
  replace hW := bel2 hW hg (by go_grown)
  clear hg
  obtain ⟨a0, a1, a2, a3⟩ := argR_one hga
  obtain ⟨b0, b1, b2, b3⟩ := argR_one hgb
  have hboth : argR (w2.alloc (.cells #[.int .i64 0, .int .i64 0, .int .i64 2, .int .i64 2, .int .i64 1, .int .i64 1, .int .i64 2, .int .i64 2] 33)) (w2.alloc (.cells #[.int .i64 0, .int .i64 0, .int .i64 2, .int .i64 2, .int .i64 1, .int .i64 1, .int .i64 2, .int .i64 2] 33)).heap.size (.slice (some ⟨w2.heap.size, 0, none⟩) 2 2) [⟨0, 0, 2, 2⟩, ⟨1, 1, 2, 2⟩] := argR_lit w2 [⟨0, 0, 2, 2⟩, ⟨1, 1, 2, 2⟩] (by unfold maxLen; simp)
  go_wp2
  go_region
  clear a0 a1 a2 a3 b0 b1 b2 b3
  go_wp2_with (go_at_call 11; fail)
  (with_reducible refine (c11 _ [⟨0, 0, 2, 2⟩, ⟨1, 1, 2, 2⟩] _ (argR_up hboth (by go_grown)) (cap_lit _ _ (by unfold maxLen; simp))).mono ?_)
  rintro e w3 ⟨of, rfl, hg, hown⟩
  replace hga := argR_up2 hga hg (by go_grown)
  replace hgb := argR_up2 hgb hg (by go_grown)
  replace hboth := argR_up2 hboth hg (by go_grown)
  replace hW := bel2 hW hg (by go_grown)
  clear hg
  have hof := argR_own hown
  have cof := capOk_own hown
  rw [ev1] at hof
  clear hown
  go_wp2_with (go_at_call 43; fail)
  (with_reducible refine (c43 0 0 3 3 _).mono ?_)
  rintro e w4 ⟨gc, rfl, hg, hgc⟩
  replace hga := argR_up2 hga hg (by go_grown)
  replace hgb := argR_up2 hgb hg (by go_grown)
  replace hboth := argR_up2 hboth hg (by go_grown)
  replace hof := argR_up2 hof hg (by go_grown)
  replace hW := bel2 hW hg (by go_grown)
  clear hg
  go_wp2_with (go_at_call 43; fail)
  (with_reducible refine (c43 1 1 1 1 _).mono ?_)
  rintro e w5 ⟨gd, rfl, hg, hgd⟩
  replace hga := argR_up2 hga hg (by go_grown)
  replace hgb := argR_up2 hgb hg (by go_grown)
  replace hboth := argR_up2 hboth hg (by go_grown)
  replace hof := argR_up2 hof hg (by go_grown)
  replace hgc := argR_up2 hgc hg (by go_grown)
  replace hW := bel2 hW hg (by go_grown)
  clear hg
  go_wp2_with (go_at_call 21; fail)
  (with_reducible refine (c21 _ _ [⟨0, 0, 3, 3⟩] [⟨1, 1, 1, 1⟩] _ (argR_up hgc (by go_grown)) (argR_up hgd (by go_grown)) (cap_lit _ _ (by unfold maxLen; simp)) (cap_lit _ _ (by unfold maxLen; simp))).mono ?_)
  rintro e w6 ⟨ring, rfl, hg, hown⟩
  replace hga := argR_up2 hga hg (by go_grown)
  replace hgb := argR_up2 hgb hg (by go_grown)
  replace hboth := argR_up2 hboth hg (by go_grown)
  replace hof := argR_up2 hof hg (by go_grown)
  replace hgc := argR_up2 hgc hg (by go_grown)
  replace hgd := argR_up2 hgd hg (by go_grown)
  replace hW := bel2 hW hg (by go_grown)
  clear hg
  have hring := argR_own hown
  have cring := capOk_own hown
  rw [ev2] at hring
  clear hown
  go_wp2_with (go_at_call 43; fail)
  (with_reducible refine (c43 15 0 2 1 _).mono ?_)
  rintro e w7 ⟨ge, rfl, hg, hge⟩
  replace hga := argR_up2 hga hg (by go_grown)
  replace hgb := argR_up2 hgb hg (by go_grown)
  replace hboth := argR_up2 hboth hg (by go_grown)
  replace hof := argR_up2 hof hg (by go_grown)
  replace hgc := argR_up2 hgc hg (by go_grown)
  replace hgd := argR_up2 hgd hg (by go_grown)
  replace hring := argR_up2 hring hg (by go_grown)
  replace hW := bel2 hW hg (by go_grown)
  clear hg
  go_wp2_with (go_at_call 29; fail)
  (with_reducible refine (c29 _ [⟨15, 0, 2, 1⟩] [⟨0, 1, [(0, 2)]⟩] _ (argR_up hge (by go_grown)) (cap_lit _ _ (by unfold maxLen; simp)) ev3c ev3).mono ?_)
  rintro e w8 ⟨t, rfl, hg, ht⟩
  replace hga := argR_up2 hga hg (by go_grown)
  replace hgb := argR_up2 hgb hg (by go_grown)
  replace hboth := argR_up2 hboth hg (by go_grown)
  replace hof := argR_up2 hof hg (by go_grown)
  replace hgc := argR_up2 hgc hg (by go_grown)
  replace hgd := argR_up2 hgd hg (by go_grown)
  replace hring := argR_up2 hring hg (by go_grown)
  replace hge := argR_up2 hge hg (by go_grown)
  replace hW := bel2 hW hg (by go_grown)
  clear hg
  rw [ev3b] at ht
  have hl3 : argR (w8.alloc (.cells #[.int .i64 0, .int .i64 0, .int .i64 2, .int .i64 1, .int .i64 0, .int .i64 1, .int .i64 3, .int .i64 1, .int .i64 1, .int .i64 2, .int .i64 2, .int .i64 1] 33)) (w8.alloc (.cells #[.int .i64 0, .int .i64 0, .int .i64 2, .int .i64 1, .int .i64 0, .int .i64 1, .int .i64 3, .int .i64 1, .int .i64 1, .int .i64 2, .int .i64 2, .int .i64 1] 33)).heap.size (.slice (some ⟨w8.heap.size, 0, none⟩) 3 3) [⟨0, 0, 2, 1⟩, ⟨0, 1, 3, 1⟩, ⟨1, 2, 2, 1⟩] := argR_lit w8 [⟨0, 0, 2, 1⟩, ⟨0, 1, 3, 1⟩, ⟨1, 2, 2, 1⟩] (by unfold maxLen; simp)
  go_wp2_with (go_at_call 12; fail)
  (with_reducible refine (c12b _ _ [⟨0, 0, 2, 1⟩, ⟨0, 1, 3, 1⟩, ⟨1, 2, 2, 1⟩] [⟨0, 0, 2, 1⟩, ⟨0, 1, 3, 1⟩, ⟨1, 2, 2, 1⟩] _ true (by decide) (by simp) (by simp) (argR_up hof (by go_grown)) (argR_up hl3 (by go_grown))).mono ?_)
  rintro e w9 ⟨rfl, hg⟩
  replace hga := argR_up2 hga hg (by go_grown)
  replace hgb := argR_up2 hgb hg (by go_grown)
  replace hboth := argR_up2 hboth hg (by go_grown)
  replace hof := argR_up2 hof hg (by go_grown)
  replace hgc := argR_up2 hgc hg (by go_grown)
  replace hgd := argR_up2 hgd hg (by go_grown)
  replace hring := argR_up2 hring hg (by go_grown)
  replace hge := argR_up2 hge hg (by go_grown)
  replace ht := ownsRow_below (ownsRow_below ht (by go_grown)) hg
  replace hW := bel2 hW hg (by go_grown)
  clear hg
  clear hl3
  go_wp2_with (go_at_call 17; fail)
  (with_reducible refine (c17 _ _ [⟨0, 0, 2, 2⟩] [⟨1, 1, 2, 2⟩] _ (argR_up hga (by go_grown)) (argR_up hgb (by go_grown)) (cap_lit _ _ (by unfold maxLen; simp)) (cap_lit _ _ (by unfold maxLen; simp))).mono ?_)
  rintro e w10 ⟨un, rfl, hg, hown⟩
  replace hga := argR_up2 hga hg (by go_grown)
  replace hgb := argR_up2 hgb hg (by go_grown)
  replace hboth := argR_up2 hboth hg (by go_grown)
  replace hof := argR_up2 hof hg (by go_grown)
  replace hgc := argR_up2 hgc hg (by go_grown)
  replace hgd := argR_up2 hgd hg (by go_grown)
  replace hring := argR_up2 hring hg (by go_grown)
  replace hge := argR_up2 hge hg (by go_grown)
  replace ht := ownsRow_below (ownsRow_below ht (by go_grown)) hg
  replace hW := bel2 hW hg (by go_grown)
  clear hg
  have hun := argR_own hown
  have cun := capOk_own hown
  rw [ev4] at hun
  clear hown
  go_wp2_with (go_at_call 12; fail)
  (with_reducible refine (c12b _ _ [⟨0, 0, 2, 1⟩, ⟨0, 1, 3, 1⟩, ⟨1, 2, 2, 1⟩] [⟨0, 0, 2, 1⟩, ⟨0, 1, 3, 1⟩, ⟨1, 2, 2, 1⟩] _ true (by decide) (by simp) (by simp) (argR_up hun (by go_grown)) (argR_up hof (by go_grown))).mono ?_)
  rintro e w11 ⟨rfl, hg⟩
  replace hga := argR_up2 hga hg (by go_grown)
  replace hgb := argR_up2 hgb hg (by go_grown)
  replace hboth := argR_up2 hboth hg (by go_grown)
  replace hof := argR_up2 hof hg (by go_grown)
  replace hgc := argR_up2 hgc hg (by go_grown)
  replace hgd := argR_up2 hgd hg (by go_grown)
  replace hring := argR_up2 hring hg (by go_grown)
  replace hge := argR_up2 hge hg (by go_grown)
  replace hun := argR_up2 hun hg (by go_grown)
  replace ht := ownsRow_below (ownsRow_below ht (by go_grown)) hg
  replace hW := bel2 hW hg (by go_grown)
  clear hg
  go_wp2_with (go_at_call 19; fail)
  (with_reducible refine (c19 _ _ [⟨0, 0, 2, 2⟩] [⟨1, 1, 2, 2⟩] _ (argR_up hga (by go_grown)) (argR_up hgb (by go_grown)) (cap_lit _ _ (by unfold maxLen; simp)) (cap_lit _ _ (by unfold maxLen; simp))).mono ?_)
  rintro e w12 ⟨co, rfl, hg, hown⟩
  replace hga := argR_up2 hga hg (by go_grown)
  replace hgb := argR_up2 hgb hg (by go_grown)
  replace hboth := argR_up2 hboth hg (by go_grown)
  replace hof := argR_up2 hof hg (by go_grown)
  replace hgc := argR_up2 hgc hg (by go_grown)
  replace hgd := argR_up2 hgd hg (by go_grown)
  replace hring := argR_up2 hring hg (by go_grown)
  replace hge := argR_up2 hge hg (by go_grown)
  replace hun := argR_up2 hun hg (by go_grown)
  replace ht := ownsRow_below (ownsRow_below ht (by go_grown)) hg
  replace hW := bel2 hW hg (by go_grown)
  clear hg
  have hco := argR_own hown
  have cco := capOk_own hown
  rw [ev5] at hco
  clear hown
  go_wp2_with (go_at_call 43; fail)
  (with_reducible refine (c43 1 1 1 1 _).mono ?_)
  rintro e w13 ⟨gf, rfl, hg, hgf⟩
  replace hga := argR_up2 hga hg (by go_grown)
  replace hgb := argR_up2 hgb hg (by go_grown)
  replace hboth := argR_up2 hboth hg (by go_grown)
  replace hof := argR_up2 hof hg (by go_grown)
  replace hgc := argR_up2 hgc hg (by go_grown)
  replace hgd := argR_up2 hgd hg (by go_grown)
  replace hring := argR_up2 hring hg (by go_grown)
  replace hge := argR_up2 hge hg (by go_grown)
  replace hun := argR_up2 hun hg (by go_grown)
  replace hco := argR_up2 hco hg (by go_grown)
  replace ht := ownsRow_below (ownsRow_below ht (by go_grown)) hg
  replace hW := bel2 hW hg (by go_grown)
  clear hg
  go_wp2_with (go_at_call 12; fail)
  (with_reducible refine (c12b _ _ [⟨1, 1, 1, 1⟩] [⟨1, 1, 1, 1⟩] _ true (by decide) (by simp) (by simp) (argR_up hco (by go_grown)) (argR_up hgf (by go_grown))).mono ?_)
  rintro e w14 ⟨rfl, hg⟩
  replace hga := argR_up2 hga hg (by go_grown)
  replace hgb := argR_up2 hgb hg (by go_grown)
  replace hboth := argR_up2 hboth hg (by go_grown)
  replace hof := argR_up2 hof hg (by go_grown)
  replace hgc := argR_up2 hgc hg (by go_grown)
  replace hgd := argR_up2 hgd hg (by go_grown)
  replace hring := argR_up2 hring hg (by go_grown)
  replace hge := argR_up2 hge hg (by go_grown)
  replace hun := argR_up2 hun hg (by go_grown)
  replace hco := argR_up2 hco hg (by go_grown)
  replace hgf := argR_up2 hgf hg (by go_grown)
  replace ht := ownsRow_below (ownsRow_below ht (by go_grown)) hg
  replace hW := bel2 hW hg (by go_grown)
  clear hg
  have hl4 : argR (w14.alloc (.cells #[.int .i64 0, .int .i64 0, .int .i64 3, .int .i64 1, .int .i64 0, .int .i64 1, .int .i64 1, .int .i64 1, .int .i64 2, .int .i64 1, .int .i64 1, .int .i64 1, .int .i64 0, .int .i64 2, .int .i64 3, .int .i64 1] 33)) (w14.alloc (.cells #[.int .i64 0, .int .i64 0, .int .i64 3, .int .i64 1, .int .i64 0, .int .i64 1, .int .i64 1, .int .i64 1, .int .i64 2, .int .i64 1, .int .i64 1, .int .i64 1, .int .i64 0, .int .i64 2, .int .i64 3, .int .i64 1] 33)).heap.size (.slice (some ⟨w14.heap.size, 0, none⟩) 4 4) [⟨0, 0, 3, 1⟩, ⟨0, 1, 1, 1⟩, ⟨2, 1, 1, 1⟩, ⟨0, 2, 3, 1⟩] := argR_lit w14 [⟨0, 0, 3, 1⟩, ⟨0, 1, 1, 1⟩, ⟨2, 1, 1, 1⟩, ⟨0, 2, 3, 1⟩] (by unfold maxLen; simp)
  go_wp2_with (go_at_call 12; fail)
  (with_reducible refine (c12b _ _ [⟨0, 0, 3, 1⟩, ⟨0, 1, 1, 1⟩, ⟨2, 1, 1, 1⟩, ⟨0, 2, 3, 1⟩] [⟨0, 0, 3, 1⟩, ⟨0, 1, 1, 1⟩, ⟨2, 1, 1, 1⟩, ⟨0, 2, 3, 1⟩] _ true (by decide) (by simp) (by simp) (argR_up hring (by go_grown)) (argR_up hl4 (by go_grown))).mono ?_)
  rintro e w15 ⟨rfl, hg⟩
  replace hga := argR_up2 hga hg (by go_grown)
  replace hgb := argR_up2 hgb hg (by go_grown)
  replace hboth := argR_up2 hboth hg (by go_grown)
  replace hof := argR_up2 hof hg (by go_grown)
  replace hgc := argR_up2 hgc hg (by go_grown)
  replace hgd := argR_up2 hgd hg (by go_grown)
  replace hring := argR_up2 hring hg (by go_grown)
  replace hge := argR_up2 hge hg (by go_grown)
  replace hun := argR_up2 hun hg (by go_grown)
  replace hco := argR_up2 hco hg (by go_grown)
  replace hgf := argR_up2 hgf hg (by go_grown)
  replace ht := ownsRow_below (ownsRow_below ht (by go_grown)) hg
  replace hW := bel2 hW hg (by go_grown)
  clear hg
  clear hl4
  go_wp2_with (go_at_call 14; fail)
  (with_reducible refine (d14 _ [⟨0, 0, 2, 1⟩, ⟨0, 1, 3, 1⟩, ⟨1, 2, 2, 1⟩] _ true ev6 (argR_up hof (by go_grown)) cof (by simp)).mono ?_)
  rintro e w16 ⟨rfl, hg⟩
  replace hga := argR_up2 hga hg (by go_grown)
  replace hgb := argR_up2 hgb hg (by go_grown)
  replace hboth := argR_up2 hboth hg (by go_grown)
  replace hof := argR_up2 hof hg (by go_grown)
  replace hgc := argR_up2 hgc hg (by go_grown)
  replace hgd := argR_up2 hgd hg (by go_grown)
  replace hring := argR_up2 hring hg (by go_grown)
  replace hge := argR_up2 hge hg (by go_grown)
  replace hun := argR_up2 hun hg (by go_grown)
  replace hco := argR_up2 hco hg (by go_grown)
  replace hgf := argR_up2 hgf hg (by go_grown)
  replace ht := ownsRow_below (ownsRow_below ht (by go_grown)) hg
  replace hW := bel2 hW hg (by go_grown)
  clear hg
  go_wp2_with (go_at_call 14; fail)
  (with_reducible refine (d14 _ [⟨0, 0, 2, 2⟩, ⟨1, 1, 2, 2⟩] _ false ev6b (argR_up hboth (by go_grown)) (cap_lit _ _ (by unfold maxLen; simp)) (by simp)).mono ?_)
  rintro e w17 ⟨rfl, hg⟩
  replace hga := argR_up2 hga hg (by go_grown)
  replace hgb := argR_up2 hgb hg (by go_grown)
  replace hboth := argR_up2 hboth hg (by go_grown)
  replace hof := argR_up2 hof hg (by go_grown)
  replace hgc := argR_up2 hgc hg (by go_grown)
  replace hgd := argR_up2 hgd hg (by go_grown)
  replace hring := argR_up2 hring hg (by go_grown)
  replace hge := argR_up2 hge hg (by go_grown)
  replace hun := argR_up2 hun hg (by go_grown)
  replace hco := argR_up2 hco hg (by go_grown)
  replace hgf := argR_up2 hgf hg (by go_grown)
  replace ht := ownsRow_below (ownsRow_below ht (by go_grown)) hg
  replace hW := bel2 hW hg (by go_grown)
  clear hg
  go_wp2_with (go_at_call 25; fail)
  (with_reducible refine (d25 _ [⟨0, 0, 2, 2⟩, ⟨1, 1, 2, 2⟩] _ 7 ev7 (argR_up hboth (by go_grown)) (cap_lit _ _ (by unfold maxLen; simp))).mono ?_)
  rintro e w18 ⟨rfl, hg⟩
  replace hga := argR_up2 hga hg (by go_grown)
  replace hgb := argR_up2 hgb hg (by go_grown)
  replace hboth := argR_up2 hboth hg (by go_grown)
  replace hof := argR_up2 hof hg (by go_grown)
  replace hgc := argR_up2 hgc hg (by go_grown)
  replace hgd := argR_up2 hgd hg (by go_grown)
  replace hring := argR_up2 hring hg (by go_grown)
  replace hge := argR_up2 hge hg (by go_grown)
  replace hun := argR_up2 hun hg (by go_grown)
  replace hco := argR_up2 hco hg (by go_grown)
  replace hgf := argR_up2 hgf hg (by go_grown)
  replace ht := ownsRow_below (ownsRow_below ht (by go_grown)) hg
  replace hW := bel2 hW hg (by go_grown)
  clear hg
  go_wp2_with (go_at_call 27; fail)
  (with_reducible refine (d27 _ [⟨0, 0, 2, 2⟩, ⟨1, 1, 2, 2⟩] _ ⟨0, 0, 3, 3⟩ ev8 (argR_up hboth (by go_grown)) (cap_lit _ _ (by unfold maxLen; simp))).mono ?_)
  rintro e w19 ⟨rfl, hg⟩
  replace hga := argR_up2 hga hg (by go_grown)
  replace hgb := argR_up2 hgb hg (by go_grown)
  replace hboth := argR_up2 hboth hg (by go_grown)
  replace hof := argR_up2 hof hg (by go_grown)
  replace hgc := argR_up2 hgc hg (by go_grown)
  replace hgd := argR_up2 hgd hg (by go_grown)
  replace hring := argR_up2 hring hg (by go_grown)
  replace hge := argR_up2 hge hg (by go_grown)
  replace hun := argR_up2 hun hg (by go_grown)
  replace hco := argR_up2 hco hg (by go_grown)
  replace hgf := argR_up2 hgf hg (by go_grown)
  replace ht := ownsRow_below (ownsRow_below ht (by go_grown)) hg
  replace hW := bel2 hW hg (by go_grown)
  clear hg
  go_wp2_with (go_at_call 23; fail)
  (with_reducible refine (d23 _ [⟨0, 0, 2, 2⟩] 1 0 _ true ev9 (argR_up hga (by go_grown)) (cap_lit _ _ (by unfold maxLen; simp))).mono ?_)
  rintro e w20 ⟨rfl, hg⟩
  replace hga := argR_up2 hga hg (by go_grown)
  replace hgb := argR_up2 hgb hg (by go_grown)
  replace hboth := argR_up2 hboth hg (by go_grown)
  replace hof := argR_up2 hof hg (by go_grown)
  replace hgc := argR_up2 hgc hg (by go_grown)
  replace hgd := argR_up2 hgd hg (by go_grown)
  replace hring := argR_up2 hring hg (by go_grown)
  replace hge := argR_up2 hge hg (by go_grown)
  replace hun := argR_up2 hun hg (by go_grown)
  replace hco := argR_up2 hco hg (by go_grown)
  replace hgf := argR_up2 hgf hg (by go_grown)
  replace ht := ownsRow_below (ownsRow_below ht (by go_grown)) hg
  replace hW := bel2 hW hg (by go_grown)
  clear hg
  go_wp2_with (go_at_call 23; fail)
  (with_reducible refine (d23 _ [⟨0, 0, 2, 2⟩] 2 0 _ false ev9b (argR_up hga (by go_grown)) (cap_lit _ _ (by unfold maxLen; simp))).mono ?_)
  rintro e w21 ⟨rfl, hg⟩
  replace hga := argR_up2 hga hg (by go_grown)
  replace hgb := argR_up2 hgb hg (by go_grown)
  replace hboth := argR_up2 hboth hg (by go_grown)
  replace hof := argR_up2 hof hg (by go_grown)
  replace hgc := argR_up2 hgc hg (by go_grown)
  replace hgd := argR_up2 hgd hg (by go_grown)
  replace hring := argR_up2 hring hg (by go_grown)
  replace hge := argR_up2 hge hg (by go_grown)
  replace hun := argR_up2 hun hg (by go_grown)
  replace hco := argR_up2 hco hg (by go_grown)
  replace hgf := argR_up2 hgf hg (by go_grown)
  replace ht := ownsRow_below (ownsRow_below ht (by go_grown)) hg
  replace hW := bel2 hW hg (by go_grown)
  clear hg
  go_wp2_with (go_at_call 43; fail)
  (with_reducible refine (c43 0 0 1 1 _).mono ?_)
  rintro e w22 ⟨gh, rfl, hg, hgh⟩
  replace hga := argR_up2 hga hg (by go_grown)
  replace hgb := argR_up2 hgb hg (by go_grown)
  replace hboth := argR_up2 hboth hg (by go_grown)
  replace hof := argR_up2 hof hg (by go_grown)
  replace hgc := argR_up2 hgc hg (by go_grown)
  replace hgd := argR_up2 hgd hg (by go_grown)
  replace hring := argR_up2 hring hg (by go_grown)
  replace hge := argR_up2 hge hg (by go_grown)
  replace hun := argR_up2 hun hg (by go_grown)
  replace hco := argR_up2 hco hg (by go_grown)
  replace hgf := argR_up2 hgf hg (by go_grown)
  replace ht := ownsRow_below (ownsRow_below ht (by go_grown)) hg
  replace hW := bel2 hW hg (by go_grown)
  clear hg
  go_wp2_with (go_at_call 31; fail)
  (with_reducible refine (c31 _ [⟨0, 0, 1, 1⟩] 1 _ (argR_up hgh (by go_grown)) (cap_lit _ _ (by unfold maxLen; simp))).mono ?_)
  rintro e w23 ⟨gr, rfl, hg, hown⟩
  replace hga := argR_up2 hga hg (by go_grown)
  replace hgb := argR_up2 hgb hg (by go_grown)
  replace hboth := argR_up2 hboth hg (by go_grown)
  replace hof := argR_up2 hof hg (by go_grown)
  replace hgc := argR_up2 hgc hg (by go_grown)
  replace hgd := argR_up2 hgd hg (by go_grown)
  replace hring := argR_up2 hring hg (by go_grown)
  replace hge := argR_up2 hge hg (by go_grown)
  replace hun := argR_up2 hun hg (by go_grown)
  replace hco := argR_up2 hco hg (by go_grown)
  replace hgf := argR_up2 hgf hg (by go_grown)
  replace hgh := argR_up2 hgh hg (by go_grown)
  replace ht := ownsRow_below (ownsRow_below ht (by go_grown)) hg
  replace hW := bel2 hW hg (by go_grown)
  clear hg
  have hgr := argR_own hown
  have cgr := capOk_own hown
  rw [ev10] at hgr
  clear hown
  go_wp2_with (go_at_call 43; fail)
  (with_reducible refine (c43 (-1) (-1) 3 3 _).mono ?_)
  rintro e w24 ⟨gi, rfl, hg, hgi⟩
  replace hga := argR_up2 hga hg (by go_grown)
  replace hgb := argR_up2 hgb hg (by go_grown)
  replace hboth := argR_up2 hboth hg (by go_grown)
  replace hof := argR_up2 hof hg (by go_grown)
  replace hgc := argR_up2 hgc hg (by go_grown)
  replace hgd := argR_up2 hgd hg (by go_grown)
  replace hring := argR_up2 hring hg (by go_grown)
  replace hge := argR_up2 hge hg (by go_grown)
  replace hun := argR_up2 hun hg (by go_grown)
  replace hco := argR_up2 hco hg (by go_grown)
  replace hgf := argR_up2 hgf hg (by go_grown)
  replace hgh := argR_up2 hgh hg (by go_grown)
  replace hgr := argR_up2 hgr hg (by go_grown)
  replace ht := ownsRow_below (ownsRow_below ht (by go_grown)) hg
  replace hW := bel2 hW hg (by go_grown)
  clear hg
  go_wp2_with (go_at_call 12; fail)
  (with_reducible refine (c12b _ _ [⟨-1, -1, 3, 3⟩] [⟨-1, -1, 3, 3⟩] _ true (by decide) (by simp) (by simp) (argR_up hgr (by go_grown)) (argR_up hgi (by go_grown))).mono ?_)
  rintro e w25 ⟨rfl, hg⟩
  replace hga := argR_up2 hga hg (by go_grown)
  replace hgb := argR_up2 hgb hg (by go_grown)
  replace hboth := argR_up2 hboth hg (by go_grown)
  replace hof := argR_up2 hof hg (by go_grown)
  replace hgc := argR_up2 hgc hg (by go_grown)
  replace hgd := argR_up2 hgd hg (by go_grown)
  replace hring := argR_up2 hring hg (by go_grown)
  replace hge := argR_up2 hge hg (by go_grown)
  replace hun := argR_up2 hun hg (by go_grown)
  replace hco := argR_up2 hco hg (by go_grown)
  replace hgf := argR_up2 hgf hg (by go_grown)
  replace hgh := argR_up2 hgh hg (by go_grown)
  replace hgr := argR_up2 hgr hg (by go_grown)
  replace hgi := argR_up2 hgi hg (by go_grown)
  replace ht := ownsRow_below (ownsRow_below ht (by go_grown)) hg
  replace hW := bel2 hW hg (by go_grown)
  clear hg
  obtain ⟨at0, ct, rfl, hat, _⟩ := row_formS ht
  obtain ⟨gt, rfl⟩ := hat (by simp)
  have t0 := ht.cellAt 0 (by simp)
  have t1 := ht.cellAt 1 (by simp)
  have t2 := ht.cellAt 2 (by simp)
  have t3 := ht.cellAt 3 (by simp)
  simp only [cellsP, List.flatMap_cons, List.flatMap_nil] at t0 t1 t2 t3
  simp at t0 t1 t2 t3
  have HW := Lib.hid hW
  go_wp2
  go_ret
  exact ⟨by simp, HW.out⟩
end

end Go.Proofs.Ythknkgblddoapaa
