import Derived.Test.YtmafmpgpaioniaaProg
import Derived.WalkKit
import Derived.WalkLawsBesides
import Derived.Outline
import Derived.Lib.Walk
import Derived.Deep.QuietTactic
import Derived.BigQuiet
import Derived.RowKit3
import Derived.Deep.LoopGhost
import Derived.Laws.Rows
import Derived.Laws.Tables
import Derived.Laws.CopyOwn
import Derived.Lib.Hide
import Derived.Handy
import Derived.Deep.Onto
import Derived.IntWalk
import Derived.Deep.WholeRow
import Derived.Laws.ResultCell
import Derived.Test.YtmafmpgpaioniaaQC
import Derived.Test.YtmafmpgpaioniaaA0
namespace Go.Proofs.Ytmafmpgpaioniaa
open Go.RowKit
set_option maxHeartbeats 400000
set_option linter.unusedVariables false

/-! A region that draws its order: quiet operations and two allocations in any order, ahead of a forced tail. Each allocation's pointer is whatever block it got; what is known of it is handed on by a class of worlds. -/
section
variable {P : Program} {md : Region.Mode} {ops : Array Oper} {B : World → Prop}
/-- a class that later worlds stay in. -/
def SubC (B : World → Prop) (C : World → Prop) : Prop := (∀ w w', C w → Below w.heap.size w w' → C w') ∧ (∀ w, C w → B w)
/-- behind an allocation of the object o, which gave p. -/
def CalC (C : World → Prop) (o : Obj) (p : Value) (w' : World) : Prop := ∃ w, C w ∧ p = .pointer (some ⟨w.heap.size, 0, none⟩) ∧ Below (w.alloc o).heap.size (w.alloc o) w'
theorem SubC.cal {C : World → Prop} (h : SubC B C) (o : Obj) (p : Value) : SubC B (CalC C o p) :=
  ⟨fun w w' ⟨v, h1, h2, h3⟩ hb => ⟨v, h1, h2, bel_trans h3 hb⟩, fun w' ⟨v, h1, _, h3⟩ => h.2 _ (h.1 v w' h1 (bel_trans ((Below.refl _ _).alloc (Nat.le_refl _) o) h3))⟩
def wpX (P : Program) (md : Region.Mode) (ops : Array Oper) (n : Nat) (al : Nat → Bool) (ob : Obj) (L : Array Bool → Act → (World → Prop) → Prop) : Nat → Array Bool → Act → (World → Prop) → Prop
  | 0, listed, a, C => L listed a C
  | f + 1, listed, a, C =>
    Region.ready md ops listed ≠ [] ∧ ∀ i ∈ Region.ready md ops listed, i < n ∧
      ((al i = true ∧ ∀ o, ops[i]? = some o → ∀ p, wpX P md ops n al ob L f (listed.setIfInBounds i true) (a.put o.dst p) (CalC C ob p)) ∨
       (al i = false ∧ qOp P ops C i (fun a' => wpX P md ops n al ob L f (listed.setIfInBounds i true) a' C) a))
theorem wpAny_of_X {n g : Nat} {al : Nat → Bool} {ob : Obj} {L : Array Bool → Act → (World → Prop) → Prop} {Q' : Exit → Act → World → Prop}
    (hal : ∀ i, al i = true → ∃ o ty, ops[i]? = some o ∧ o.op = .alloc ty ∧ o.guard = none ∧ ∀ w : World, ∀ a : Act, (execOp a.eval o).run P w = .ok (.value (.pointer (some ⟨w.heap.size, 0, none⟩))) (w.alloc ob))
    (hL : ∀ listed a C w, SubC B C → C w → L listed a C → wpAny P md ops Q' g listed a w) :
    ∀ (f : Nat) (listed : Array Bool) (a : Act) (C : World → Prop) (w : World), SubC B C → C w → wpX P md ops n al ob L f listed a C → wpAny P md ops Q' (f + g) listed a w
  | 0, listed, a, C, w, hS, hw, h => by rw [Nat.zero_add]; exact hL _ _ _ _ hS hw h
  | f + 1, listed, a, C, w, hS, hw, h => by
    rw [show f + 1 + g = (f + g) + 1 by omega]
    refine ⟨fun h0 => absurd h0 h.1, fun i hi => ?_⟩
    rcases (h.2 i hi).2 with ⟨h1, h2⟩ | ⟨_, h2⟩
    · obtain ⟨o, ty, ho, _, hg, hr⟩ := hal i h1
      unfold wpOp
      simp only [ho]
      rw [if_pos (by unfold Region.wanted; rw [hg])]
      refine .inl ?_
      unfold Oper.wp
      rw [hr]
      simp only [Oper.upon]
      exact wpAny_of_X hal hL f _ _ _ _ (hS.cal ob _) ⟨w, hw, rfl, Below.refl _ _⟩ (h2 o ho _)
    · exact wpOp_of_qOp hw (fun a' w' hw' h' => wpAny_of_X hal hL f _ a' C w' hS hw' h') h2
theorem wpX_first {n i : Nat} {oi : Oper} {v : Value} {al : Nat → Bool} {ob : Obj} {L : Array Bool → Act → (World → Prop) → Prop} (hi : ops[i]? = some oi) (hsel : ∀ (j : Nat) (o : Oper) cs b, ops[j]? = some o → o.op ≠ .select cs b)
    (hs : Region.sinkB md ops n = true) (hc : Region.chainB md ops n = true) (hn : n < ops.size) (hin : i < n) (hai : al i = false)
    (hdone : ∀ listed a C, L listed a C → ∀ j ∈ Region.ready md ops listed, n ≤ j) :
    ∀ (f : Nat) (listed : Array Bool) (a : Act) (C : World → Prop), SubC B C → HeadInv md ops n listed →
      (∀ j oj, ops[j]? = some oj → j ≠ i → listed.getD j true = false → (∀ e ∈ oj.after, Region.binds md e = true → e.on ≠ i) → oi.apart ops oj = true) →
      i ∈ Region.ready md ops listed → (∀ C', SubC B C' → YieldsIn P ops C' oi v a) →
      wpX P md ops n al ob L f (listed.setIfInBounds i true) (a.put oi.dst v) C → wpX P md ops n al ob L (f + 1) listed a C := by
  intro f
  induction f with
  | zero =>
    intro listed a C hS inv _ hr hy H
    have hun := (mem_ready.1 hr).1
    refine ⟨fun h => (by rw [h] at hr; cases hr), fun j hj => ?_⟩
    have hjn : j < n := by
      rcases Nat.lt_or_ge j n with h | h
      · exact h
      · exact absurd hj (tail_waits hs hc hn inv _ i rfl hin hun j h)
    refine ⟨hjn, ?_⟩
    by_cases hji : j = i
    · subst hji; exact .inr ⟨hai, (hy C hS).qOp hi H⟩
    · have := hdone _ _ _ H j (ready_mono hj hji)
      omega
  | succ f ih =>
    intro listed a C hS inv hfree hr hy H
    have hun := (mem_ready.1 hr).1
    refine ⟨fun h => (by rw [h] at hr; cases hr), fun j hj => ?_⟩
    have hjn : j < n := by
      rcases Nat.lt_or_ge j n with h | h
      · exact h
      · exact absurd hj (tail_waits hs hc hn inv _ i rfl hin hun j h)
    refine ⟨hjn, ?_⟩
    by_cases hji : j = i
    · subst hji; exact .inr ⟨hai, (hy C hS).qOp hi H⟩
    · obtain ⟨hjun, oj, hoj, hall⟩ := mem_ready.1 hj
      have hnot : ∀ e ∈ oj.after, Region.binds md e = true → e.on ≠ i := fun e he hb heq => by
        have h1 := hall e he hb
        rw [heq, getD_both hun] at h1
        cases h1
      obtain ⟨p1, p2, p3⟩ := Oper.apart_spec (hfree j oj hoj hji hjun hnot)
      have keep : ∀ u, ∀ C', SubC B C' → YieldsIn P ops C' oi v (a.put oj.dst u) := fun u C' hC' =>
        (hy C' hC').of_same (execOp_put oi (fun cs b => hsel i oi cs b hi) a oj.dst u p3) (wanted_put oi a oj.dst u p3)
      have hfree' : ∀ k ok, ops[k]? = some ok → k ≠ i → (listed.setIfInBounds j true).getD k true = false →
          (∀ e ∈ ok.after, Region.binds md e = true → e.on ≠ i) → oi.apart ops ok = true := fun k ok hk hki hun hno => by
        refine hfree k ok hk hki ?_ hno
        by_cases hjk : j = k
        · subst hjk; exact hjun
        · rw [getD_set_ne true hjk] at hun; exact hun
      rcases (H.2 j (ready_mono hj hji)).2 with ⟨ha, h1⟩ | ⟨ha, h1⟩
      · refine .inl ⟨ha, fun o ho p => ?_⟩
        obtain rfl : o = oj := by rw [hoj] at ho; exact (Option.some.inj ho).symm
        refine ih (listed.setIfInBounds j true) _ _ (hS.cal ob p) (inv.set hj hjn) hfree' (ready_mono hr (Ne.symm hji)) (keep p) ?_
        have := h1 o hoj p
        rw [← Act.put_comm a v p p2, Array.setIfInBounds_comm _ _ hji]
        exact this
      · refine .inr ⟨ha, ?_⟩
        obtain ⟨u, hu, hK⟩ := yieldsIn_of_qOp hoj h1
        have hu' : YieldsIn P ops C oj u a := hu.of_same (execOp_put oj (fun cs b => hsel j oj cs b hoj) a oi.dst v p1).symm (wanted_put oj a oi.dst v p1).symm
        refine hu'.qOp hoj (ih (listed.setIfInBounds j true) _ _ hS (inv.set hj hjn) hfree' (ready_mono hr (Ne.symm hji)) (keep u) ?_)
        rw [← Act.put_comm a v u p2, Array.setIfInBounds_comm _ _ hji]
        exact hK
/-- the first m operations may come up in the text's order. -/
def lexX (md : Region.Mode) (ops : Array Oper) : Nat → Nat → Array Bool → Bool
  | 0, _, _ => true
  | m + 1, k, listed => (Region.ready md ops listed).contains k && Region.free md ops listed k && lexX md ops m (k + 1) (listed.setIfInBounds k true)
def setsX : Nat → Nat → Array Bool → Array Bool
  | 0, _, listed => listed
  | m + 1, k, listed => setsX m (k + 1) (listed.setIfInBounds k true)
/-- quiet in every class. -/
def wpQuietU (P : Program) (ops : Array Oper) (B : World → Prop) (Q : Act → Prop) : List Oper → Act → Prop
  | [], a => Q a
  | o :: rest, a => ∃ v, (∀ C, SubC B C → YieldsIn P ops C o v a) ∧ wpQuietU P ops B Q rest (a.put o.dst v)
theorem wpX_lex {n k0 : Nat} {al : Nat → Bool} {ob : Obj} {L : Array Bool → Act → (World → Prop) → Prop} (hsel : Region.noSelect ops = true) (hs : Region.sinkB md ops n = true) (hc : Region.chainB md ops n = true) (hn : n < ops.size)
    (hdone : ∀ listed a C, L listed a C → ∀ j ∈ Region.ready md ops listed, n ≤ j) {C : World → Prop} (hS : SubC B C) (f0 : Nat) (hk0 : k0 ≤ n) :
    ∀ (l : List Oper) (k : Nat) (listed : Array Bool) (a : Act) (Q : Act → Prop), (∀ j, j < l.length → l[j]? = ops[k + j]?) → k + l.length = k0 → (∀ j, k ≤ j → j < k0 → al j = false) → HeadInv md ops n listed →
    lexX md ops l.length k listed = true → (∀ a', Q a' → wpX P md ops n al ob L f0 (setsX l.length k listed) a' C) → wpQuietU P ops B Q l a →
    wpX P md ops n al ob L (l.length + f0) listed a C
  | [], k, listed, a, Q, hl, hk, _, inv, _, hQ, h => by
    rw [List.length_nil, Nat.zero_add]; exact hQ a h
  | o :: l, k, listed, a, Q, hl, hk, hal, inv, hB, hQ, h => by
    have h0 : ops[k]? = some o := by simpa using (hl 0 (by simp)).symm
    simp only [List.length_cons, lexX, Bool.and_eq_true] at hB
    obtain ⟨⟨hr, hf⟩, hB'⟩ := hB
    have hkn : k < n := by simp only [List.length_cons] at hk; omega
    have hr' : k ∈ Region.ready md ops listed := by simpa using hr
    obtain ⟨v, hy, hK⟩ := h
    rw [List.length_cons, show l.length + 1 + f0 = (l.length + f0) + 1 by omega]
    exact wpX_first h0 (Region.noSelect_spec hsel) hs hc hn hkn (hal k (Nat.le_refl _) (by simp only [List.length_cons] at hk; omega)) hdone _ listed a C hS inv (Region.free_spec h0 hf) hr' hy
      (wpX_lex hsel hs hc hn hdone hS f0 hk0 l (k + 1) _ _ Q (fun j hj => by have := hl (j + 1) (by simp; omega); simpa [Nat.add_assoc, Nat.add_comm 1 j] using this) (by simp only [List.length_cons] at hk; omega) (fun j h1 h2 => hal j (by omega) h2) (inv.set hr' hkn) hB' (by simpa [setsX] using hQ) hK)
/-- what is known of the two pointers. -/
def TwoF (B : World → Prop) (ob : Obj) (p q : Value) (w' : World) : Prop :=
  ∃ g h : Nat, p = .pointer (some ⟨g, 0, none⟩) ∧ q = .pointer (some ⟨h, 0, none⟩) ∧ g ≠ h ∧ w'.heap[g]? = some ob ∧ w'.heap[h]? = some ob ∧ B w' ∧ (∃ w1, B w1 ∧ w1.heap.size ≤ g) ∧ (∃ w1, B w1 ∧ w1.heap.size ≤ h)
theorem two_of {ob : Obj} {p q : Value} {w' : World} (hB : ∀ w w', B w → Below w.heap.size w w' → B w') (h : CalC (CalC B ob p) ob q w') : TwoF B ob p q w' := by
  obtain ⟨w2, ⟨w1, b1, rfl, h1⟩, rfl, h2⟩ := h
  have e1 := h1.size
  rw [World.size_alloc] at e1
  have b2 : B w2 := hB _ _ b1 (bel_trans ((Below.refl _ _).alloc (Nat.le_refl _) ob) h1)
  have b3 := bel_trans ((Below.refl w2.heap.size w2).alloc (Nat.le_refl _) ob) h2
  refine ⟨w1.heap.size, w2.heap.size, rfl, rfl, by omega, ?_, ?_, hB _ _ b2 b3, ⟨w1, b1, Nat.le_refl _⟩, ⟨w2, b2, Nat.le_refl _⟩⟩
  · rw [b3.block _ (by omega), h1.block _ (by simp)]
    exact heap_alloc_last _ _
  · rw [h2.block _ (by simp)]
    exact heap_alloc_last _ _
theorem two_swap {ob : Obj} {p q : Value} {w' : World} (h : TwoF B ob p q w') : TwoF B ob q p w' := by
  obtain ⟨g, k, h1, h2, h3, h4, h5, h6, h7, h8⟩ := h
  exact ⟨k, g, h2, h1, h3.symm, h5, h4, h6, h8, h7⟩
/-- the region's form, checked by reckoning. -/
def twoB (ops : Array Oper) (k : Nat) : Bool :=
  Region.noSelect ops && decide (k + 2 < ops.size) && Region.sinkB .any ops (k + 2) && Region.chainB .any ops (k + 2) && lexX .any ops k 0 (Array.replicate ops.size false) &&
  (Region.ready .any ops (setsX k 0 (Array.replicate ops.size false)) == [k, k + 1]) &&
  (Region.ready .any ops ((setsX k 0 (Array.replicate ops.size false)).setIfInBounds k true) == [k + 1]) &&
  (Region.ready .any ops ((setsX k 0 (Array.replicate ops.size false)).setIfInBounds (k + 1) true) == [k]) &&
  Region.seqB .any ops (ops.size - (k + 2)) (k + 2) (((setsX k 0 (Array.replicate ops.size false)).setIfInBounds k true).setIfInBounds (k + 1) true)
/-- quiet operations and two allocations in any order, ahead of a forced tail. -/
theorem wp_region_two {id : Nat} {Q : Exit → Act → World → Prop} {a : Act} {w : World} {l : List Oper} (B : World → Prop) (hB : ∀ w w', B w → Below w.heap.size w w' → B w') (hw : B w.drew) (k : Nat) (ob : Obj) (d1 d2 : Tmp) (o1 o2 : Oper) (hd : d1 ≠ d2)
    (e1 : l[k]? = some o1) (e2 : l[k + 1]? = some o2) (t1 : o1.dst = some d1) (t2 : o2.dst = some d2)
    (r1 : (∃ ty, o1.op = .alloc ty) ∧ o1.guard = none ∧ ∀ w : World, ∀ a : Act, (execOp a.eval o1).run P w = .ok (.value (.pointer (some ⟨w.heap.size, 0, none⟩))) (w.alloc ob))
    (r2 : (∃ ty, o2.op = .alloc ty) ∧ o2.guard = none ∧ ∀ w : World, ∀ a : Act, (execOp a.eval o2).run P w = .ok (.value (.pointer (some ⟨w.heap.size, 0, none⟩))) (w.alloc ob))
    (hm : P.follows .mixedOrders = true) (hb : twoB l.toArray k = true)
    (h : wpQuietU P l.toArray B (fun a' => ∀ p q w', TwoF B ob p q w' → wpList P l.toArray Q (l.drop (k + 2)) ((a'.put (some d1) p).put (some d2) q) w') (l.take k) a) : (Code.region id l.toArray true).wp P Q a w := by
  simp only [twoB, Bool.and_eq_true, decide_eq_true_eq, beq_iff_eq] at hb
  obtain ⟨⟨⟨⟨⟨⟨⟨⟨hsel, hn⟩, hs⟩, hc⟩, hlex⟩, y0⟩, y1⟩, y2⟩, hseq⟩ := hb
  have hn' : k + 2 < l.length := by simpa using hn
  have htl : (l.take k).length = k := by simp; omega
  have hdl : (l.drop (k + 2)).length = l.toArray.size - (k + 2) := by simp
  have inv0 : HeadInv .any l.toArray (k + 2) (Array.replicate l.toArray.size false) :=
    ⟨by simp, fun j oj _ hl => (by rw [getD_replicate_false] at hl; cases hl), fun t _ ht => getD_in (by simpa using ht) (getD_replicate_false _ _)⟩
  have hSB : SubC B B := ⟨hB, fun _ h => h⟩
  let al : Nat → Bool := fun i => i == k || i == k + 1
  have hcomm : ∀ (a' : Act) (p q : Value), (a'.put (some d1) p).put (some d2) q = (a'.put (some d2) q).put (some d1) p := fun a' p q => Act.put_comm a' p q (fun d h1 h2 => hd (by have e1 := Option.some.inj h1; have e2 := Option.some.inj h2; rw [e1, e2]))
  have H := wpX_lex (md := .any) (n := k + 2) (k0 := k) (al := al) (ob := ob) (L := fun listed' a' C => Region.seqB .any l.toArray (l.toArray.size - (k + 2)) (k + 2) listed' = true ∧ ∀ w', C w' → wpList P l.toArray Q (l.drop (k + 2)) a' w')
    hsel hs hc hn (fun listed' a' C hL => seqB_ready hL.1) hSB 2 (by omega) (l.take k) 0 (Array.replicate l.toArray.size false) a _ (fun j hj => by
      have hj' : j < k := by rw [htl] at hj; exact hj
      simp [hj']) (by rw [htl]; omega) (fun j _ hj => by simp only [al, Bool.or_eq_false_iff, beq_eq_false_iff_ne]; omega) inv0 (by rw [htl]; exact hlex)
    (fun a' hQ => by
      rw [htl]
      refine ⟨by rw [y0]; simp, fun i hi => ?_⟩
      rw [y0] at hi
      simp only [List.mem_cons, List.not_mem_nil, or_false] at hi
      rcases hi with rfl | rfl
      · refine ⟨by omega, .inl ⟨by simp [al], fun o ho p => ?_⟩⟩
        have ho' : l[i]? = some o := by simpa using ho
        obtain rfl : o = o1 := by rw [e1] at ho'; exact (Option.some.inj ho').symm
        rw [t1]
        refine ⟨by rw [y1]; simp, fun j hj => ?_⟩
        rw [y1] at hj
        simp only [List.mem_cons, List.not_mem_nil, or_false] at hj
        subst hj
        refine ⟨by omega, .inl ⟨by simp [al], fun o ho q => ?_⟩⟩
        have ho' : l[i + 1]? = some o := by simpa using ho
        obtain rfl : o = o2 := by rw [e2] at ho'; exact (Option.some.inj ho').symm
        rw [t2]
        exact ⟨hseq, fun w' hw' => hQ p q w' (two_of hB hw')⟩
      · refine ⟨by omega, .inl ⟨by simp [al], fun o ho q => ?_⟩⟩
        have ho' : l[k + 1]? = some o := by simpa using ho
        obtain rfl : o = o2 := by rw [e2] at ho'; exact (Option.some.inj ho').symm
        rw [t2]
        refine ⟨by rw [y2]; simp, fun j hj => ?_⟩
        rw [y2] at hj
        simp only [List.mem_cons, List.not_mem_nil, or_false] at hj
        subst hj
        refine ⟨by omega, .inl ⟨by simp [al], fun o ho p => ?_⟩⟩
        have ho' : l[j]? = some o := by simpa using ho
        obtain rfl : o = o1 := by rw [e1] at ho'; exact (Option.some.inj ho').symm
        rw [t1, Array.setIfInBounds_comm _ _ (by omega), ← hcomm]
        exact ⟨hseq, fun w' hw' => hQ p q w' (two_swap (two_of hB hw'))⟩) h
  refine wp_region_any hm ?_
  have := wpAny_of_X (Q' := Q) (g := l.toArray.size - (k + 2)) (fun i hi => by
      simp only [al, Bool.or_eq_true, beq_iff_eq] at hi
      rcases hi with rfl | rfl
      · obtain ⟨⟨ty, h1⟩, h2, h3⟩ := r1
        exact ⟨o1, ty, by simpa using e1, h1, h2, h3⟩
      · obtain ⟨⟨ty, h1⟩, h2, h3⟩ := r2
        exact ⟨o2, ty, by simpa using e2, h1, h2, h3⟩) (fun listed a' C w' _ hw' hL => by
    have := wpAny_of_seq (md := .any) (Q' := Q) (l.drop (k + 2)) (k + 2) listed a' w' (fun j => by simp [List.getElem?_drop]) (by rw [hdl]; exact hL.1) (hL.2 w' hw')
    rwa [hdl] at this) _ _ _ _ { w with drawn := w.drawn + 1 } hSB hw H
  rw [htl, Nat.add_sub_of_le (Nat.le_of_lt hn)] at this
  exact this
theorem quietU_nil {Q : Act → Prop} {a : Act} (h : Q a) : wpQuietU P ops B Q [] a := h
theorem quietU_val {Q : Act → Prop} {o : Oper} {rest : List Oper} {a : Act} (v : Value) (hw : Region.wanted o (yielded ops a.tmps) = true) (h : ∀ w, B w → (execOp a.eval o).run P w = .ok (.value v) w) (hk : wpQuietU P ops B Q rest (a.put o.dst v)) : wpQuietU P ops B Q (o :: rest) a :=
  ⟨v, fun C hC => .inl ⟨hw, fun w hw' => by unfold Oper.quietAt; rw [h w (hC.2 w hw')]; exact ⟨rfl, rfl⟩⟩, hk⟩
theorem quietU_call {Q : Act → Prop} {o : Oper} {rest : List Oper} {a : Act} (f : FuncId) (args : Array Value) (v : Value) (hw : Region.wanted o (yielded ops a.tmps) = true) (h : ∀ w, B w → (execOp a.eval o).run P w = .ok (.enter f args) w)
    (hc : ∀ w, B w → Calls P f args w fun e w' => e = .returned v ∧ Below w.heap.size w w') (hk : wpQuietU P ops B Q rest (a.put o.dst v)) : wpQuietU P ops B Q (o :: rest) a :=
  ⟨v, fun C hC => .inl ⟨hw, fun w hw' => by
    unfold Oper.quietAt
    rw [h w (hC.2 w hw')]
    exact ⟨rfl, (hc w (hC.2 w hw')).mono fun e w' hh => ⟨hh.1, hC.1 w w' hw' hh.2⟩⟩⟩, hk⟩
theorem quietU_load {Q : Act → Prop} {o : Oper} {rest : List Oper} {a : Act} (ty : TypeId) (x : Operand) (ho : o.op = .load ty x) (b off : Nat) (hx : a.eval x = .pointer (some ⟨b, off, none⟩)) (cs : List Value) (d : TypeDesc)
    (hS : ∀ w, B w → w.rangeAt b off cs) (hu : P.underlying ty = some d) (hd : d.isRow = true) (hi : (P.info? ty).map (·.size) = some cs.length) (hw : Region.wanted o (yielded ops a.tmps) = true) (hk : wpQuietU P ops B Q rest (a.put o.dst (.agg cs.toArray))) : wpQuietU P ops B Q (o :: rest) a :=
  quietU_val _ hw (fun w hw' => by
    unfold execOp
    simp only [ho, hx, Instr.loadAt, Instr.sureAddr, Sem.run_bind, Sem.run_pure, Result.andThen_ok, run_loadVar_mid w b off ty cs d (hS w hw') hu hd hi]) hk
end

end Go.Proofs.Ytmafmpgpaioniaa
