import Derived.Test.YtbkhfebopmeanaaProg
import Derived.WalkKit
import Derived.WalkLawsBesides
import Derived.Outline
import Derived.Lib.Walk
import Derived.Deep.QuietTactic
import Derived.BigQuiet
import Derived.RowKit3
import Derived.Deep.LoopGhost
import Derived.Great.Walk
import Derived.Great.BuildSlice
import Derived.Laws.Rows
import Derived.Laws.Tables
import Derived.Laws.CopyOwn
import Derived.Lib.Hide
import Derived.Handy
import Derived.Test.YtbkhfebopmeanaaV2
import Derived.Test.YtbkhfebopmeanaaV3
import Derived.Test.YtbkhfebopmeanaaV4
import Derived.Test.YtbkhfebopmeanaaV5
import Derived.Test.YtbkhfebopmeanaaV6
import Derived.StillTailTactics
import Derived.Test.YtbkhfebopmeanaaV7
import Derived.Test.YtbkhfebopmeanaaV8
import Derived.Deep.Onto
namespace Go.Proofs.Ytbkhfebopmeanaa
open Go.RowKit
set_option maxHeartbeats 400000
set_option linter.unusedVariables false
theorem Aside.mk4 {a b c d : Prop} (h1 : a) (h2 : b) (h3 : c) (h4 : d) : Aside (a ∧ b ∧ c ∧ d) := ⟨h1, h2, h3, h4⟩
/-- the cells of a list of rectangles. -/
def cellsR (l : List Rc) : List Value := l.flatMap fun r => [.int .i64 r.x, .int .i64 r.y, .int .i64 r.w, .int .i64 r.h]
/-- the four pieces about an intersection, in their order. -/
def pieces (r m : Rc) : List Rc := [rcOf r.x0 r.x1 r.y0 (m.y0 - 1), rcOf r.x0 (m.x0 - 1) m.y0 m.y1, rcOf (m.x1 + 1) r.x1 m.y0 m.y1, rcOf r.x0 r.x1 (m.y1 + 1) r.y1]
def Rc.minus (r s : Rc) : List Rc := if r.emp then [] else if (r.meet s).emp then [r] else (pieces r (r.meet s)).filter (!·.emp)
theorem rcOf_bd (a b c d : Int) (h1 : -8388608 ≤ a ∧ a ≤ 8388608) (h2 : -8388608 ≤ b ∧ b ≤ 8388608) (h3 : -8388608 ≤ c ∧ c ≤ 8388608) (h4 : -8388608 ≤ d ∧ d ≤ 8388608) :
    (-9223372036854775808 ≤ (rcOf a b c d).x ∧ (rcOf a b c d).x ≤ 9223372036854775807) ∧ (-9223372036854775808 ≤ (rcOf a b c d).y ∧ (rcOf a b c d).y ≤ 9223372036854775807) := by
  unfold rcOf
  split <;> simp <;> omega
theorem meet_bd (r s : Rc) :
    (-9223372036854775808 ≤ (r.meet s).x ∧ (r.meet s).x ≤ 9223372036854775807) ∧ (-9223372036854775808 ≤ (r.meet s).y ∧ (r.meet s).y ≤ 9223372036854775807) := by
  unfold Rc.meet
  have := x0_bd r
  have := x0_bd s
  split
  · simp [Rc.zero]
  · exact rcOf_bd _ _ _ _ (by omega) (by omega) (by omega) (by omega)
theorem info23 : (Try.prog.info? 23).map (fun i => (i.zero, i.size, i.bytes)) = some (some (.agg #[.int .i64 0, .int .i64 0, .int .i64 0, .int .i64 0]), 4, 32) := by kernel_rfl
theorem lit_cells (w : World) (a b c d : Rc) (t : TypeId) (k : Nat) (hk : k < 4) :
    (w.alloc (.cells #[.int .i64 a.x, .int .i64 a.y, .int .i64 a.w, .int .i64 a.h, .int .i64 b.x, .int .i64 b.y, .int .i64 b.w, .int .i64 b.h, .int .i64 c.x, .int .i64 c.y, .int .i64 c.w, .int .i64 c.h, .int .i64 d.x, .int .i64 d.y, .int .i64 d.w, .int .i64 d.h] t)).cell? ⟨w.heap.size, k * 4, none⟩ = some (.int .i64 ([a, b, c, d].getD k Rc.zero).x) ∧
    (w.alloc (.cells #[.int .i64 a.x, .int .i64 a.y, .int .i64 a.w, .int .i64 a.h, .int .i64 b.x, .int .i64 b.y, .int .i64 b.w, .int .i64 b.h, .int .i64 c.x, .int .i64 c.y, .int .i64 c.w, .int .i64 c.h, .int .i64 d.x, .int .i64 d.y, .int .i64 d.w, .int .i64 d.h] t)).cell? ⟨w.heap.size, k * 4 + 1, none⟩ = some (.int .i64 ([a, b, c, d].getD k Rc.zero).y) ∧
    (w.alloc (.cells #[.int .i64 a.x, .int .i64 a.y, .int .i64 a.w, .int .i64 a.h, .int .i64 b.x, .int .i64 b.y, .int .i64 b.w, .int .i64 b.h, .int .i64 c.x, .int .i64 c.y, .int .i64 c.w, .int .i64 c.h, .int .i64 d.x, .int .i64 d.y, .int .i64 d.w, .int .i64 d.h] t)).cell? ⟨w.heap.size, k * 4 + 2, none⟩ = some (.int .i64 ([a, b, c, d].getD k Rc.zero).w) ∧
    (w.alloc (.cells #[.int .i64 a.x, .int .i64 a.y, .int .i64 a.w, .int .i64 a.h, .int .i64 b.x, .int .i64 b.y, .int .i64 b.w, .int .i64 b.h, .int .i64 c.x, .int .i64 c.y, .int .i64 c.w, .int .i64 c.h, .int .i64 d.x, .int .i64 d.y, .int .i64 d.w, .int .i64 d.h] t)).cell? ⟨w.heap.size, k * 4 + 3, none⟩ = some (.int .i64 ([a, b, c, d].getD k Rc.zero).h) := by
  rcases (by omega : k = 0 ∨ k = 1 ∨ k = 2 ∨ k = 3) with rfl | rfl | rfl | rfl <;> exact ⟨(World.cell?_alloc_at _ _ _ _ rfl).trans rfl, (World.cell?_alloc_at _ _ _ _ rfl).trans rfl, (World.cell?_alloc_at _ _ _ _ rfl).trans rfl, (World.cell?_alloc_at _ _ _ _ rfl).trans rfl⟩
/-- a rectangle's place is one of 64 bits. -/
def Rc.big (r : Rc) : Prop := (-9223372036854775808 ≤ r.x ∧ r.x ≤ 9223372036854775807) ∧ (-9223372036854775808 ≤ r.y ∧ r.y ≤ 9223372036854775807)
theorem lit_bd {a b c d : Rc} (h : a.big ∧ b.big ∧ c.big ∧ d.big) (k : Nat) (hk : k < 4) : ([a, b, c, d].getD k Rc.zero).big := by
  obtain ⟨h1, h2, h3, h4⟩ := h
  rcases (by omega : k = 0 ∨ k = 1 ∨ k = 2 ∨ k = 3) with rfl | rfl | rfl | rfl
  · exact h1
  · exact h2
  · exact h3
  · exact h4
/-- the rectangles that are not empty among the first ones. -/
def kep (l : List Rc) (k : Nat) : List Rc := (l.take k).filter (!·.emp)
theorem kep_hit (l : List Rc) (k : Nat) (hk : k < l.length) (h : (l.getD k Rc.zero).emp = false) : kep l (k + 1) = kep l k ++ [l.getD k Rc.zero] := by
  have e : l.take (k + 1) = l.take k ++ [l.getD k Rc.zero] := by rw [List.take_succ_eq_append_getElem hk, List.getD_eq_getElem?_getD]; simp [hk]
  unfold kep; rw [e, List.filter_append, List.filter_cons]; rw [h]; simp
theorem kep_miss (l : List Rc) (k : Nat) (hk : k < l.length) (h : (l.getD k Rc.zero).emp = true) : kep l (k + 1) = kep l k := by
  have e : l.take (k + 1) = l.take k ++ [l.getD k Rc.zero] := by rw [List.take_succ_eq_append_getElem hk, List.getD_eq_getElem?_getD]; simp [hk]
  unfold kep; rw [e, List.filter_append, List.filter_cons]; rw [h]; simp
theorem kep_le (l : List Rc) (k : Nat) : (kep l k).length ≤ k := Nat.le_trans (List.length_filter_le _ _) (List.length_take_le _ _)
theorem cellsR_append (a b : List Rc) : cellsR (a ++ b) = cellsR a ++ cellsR b := List.flatMap_append
theorem kept_R (l : List Rc) : l.filter (!·.emp) = kep l l.length := by unfold kep; rw [List.take_length]
theorem ownsRow_below {w w' : World} {base : Nat} {t : TypeId} {size : Nat} {v : Value} {n : Nat} {xs : List Value} (h : w.ownsRow base t size v n xs) (hb : Below w.heap.size w w') : w'.ownsRow base t size v n xs :=
  World.ownsRow.kept (row := none) h ⟨hb.os, hb.tape, hb.output, hb.size, fun k hk _ => hb.block k hk⟩ (by cases hv : v.ownBlock <;> simp)
theorem rel_append {B : Nat} {w wr w2 w3 : World} {v : Value} {t : TypeId} {size n : Nat} {xs : List Value} {o : Obj} (hnx : Below B w wr) (hown : wr.ownsRow B t size v n xs) (hg : Gr wr w2) (hB : B ≤ wr.heap.size) (hgrow : (w2.alloc o).grownBy w3 v.ownBlock) : Below B w w3 := by
  have hs := hg.1.size
  refine Below.grown ((hnx.trans (hg.1.mono hB)).alloc (by omega) o) hgrow (by simp; omega) fun k hk => (hown.lt k hk).1
theorem t33 (x y a b p q c d : Int) (w : World) (hx : -9223372036854775808 ≤ x) (hx' : x ≤ 9223372036854775807) (hy : -9223372036854775808 ≤ y) (hy' : y ≤ 9223372036854775807) (hp : -9223372036854775808 ≤ p) (hp' : p ≤ 9223372036854775807) (hq : -9223372036854775808 ≤ q) (hq' : q ≤ 9223372036854775807) :
    Calls Try.prog 33 #[.agg #[.int .i64 x, .int .i64 y, .int .i64 a, .int .i64 b], .agg #[.int .i64 p, .int .i64 q, .int .i64 c, .int .i64 d]] w fun e w' => ∃ v, e = .returned v ∧ Below w.heap.size w w' ∧ w'.ownsRow w.heap.size 23 4 v (Rc.minus ⟨x, y, a, b⟩ ⟨p, q, c, d⟩).length (cellsR (Rc.minus ⟨x, y, a, b⟩ ⟨p, q, c, d⟩)) := by
  cases h1 : Rc.emp ⟨x, y, a, b⟩
  · have c24 := fun w => t24 x y a b p q c d w hx hx' hy hy' hp hp' hq hq'
    obtain ⟨⟨m1, m2⟩, m3, m4⟩ := meet_bd ⟨x, y, a, b⟩ ⟨p, q, c, d⟩
    cases h2 : Rc.emp (Rc.meet ⟨x, y, a, b⟩ ⟨p, q, c, d⟩)
    · have E : Rc.minus ⟨x, y, a, b⟩ ⟨p, q, c, d⟩ = kep (pieces ⟨x, y, a, b⟩ (Rc.meet ⟨x, y, a, b⟩ ⟨p, q, c, d⟩)) 4 := by unfold Rc.minus; rw [h1, h2]; rfl
      rw [E]
      clear E
      obtain ⟨u1, u2, u3, u4, u5, u6, u7, u8⟩ := x0_bd ⟨x, y, a, b⟩
      obtain ⟨v1, v2, v3, v4, v5, v6, v7, v8⟩ := x0_bd (Rc.meet ⟨x, y, a, b⟩ ⟨p, q, c, d⟩)
      unfold pieces
      generalize Rc.meet ⟨x, y, a, b⟩ ⟨p, q, c, d⟩ = M at *
      have d0 := rcOf_bd (Rc.x0 ⟨x, y, a, b⟩) (Rc.x1 ⟨x, y, a, b⟩) (Rc.y0 ⟨x, y, a, b⟩) (M.y0 - 1) (by omega) (by omega) (by omega) (by omega)
      have d1 := rcOf_bd (Rc.x0 ⟨x, y, a, b⟩) (M.x0 - 1) M.y0 M.y1 (by omega) (by omega) (by omega) (by omega)
      have d2 := rcOf_bd (M.x1 + 1) (Rc.x1 ⟨x, y, a, b⟩) M.y0 M.y1 (by omega) (by omega) (by omega) (by omega)
      have d3 := rcOf_bd (Rc.x0 ⟨x, y, a, b⟩) (Rc.x1 ⟨x, y, a, b⟩) (M.y1 + 1) (Rc.y1 ⟨x, y, a, b⟩) (by omega) (by omega) (by omega) (by omega)
      have e0 := fun w => t42 (Rc.x0 ⟨x, y, a, b⟩) (Rc.x1 ⟨x, y, a, b⟩) (Rc.y0 ⟨x, y, a, b⟩) (M.y0 - 1) w (by omega) (by omega) (by omega) (by omega)
      have e1 := fun w => t42 (Rc.x0 ⟨x, y, a, b⟩) (M.x0 - 1) M.y0 M.y1 w (by omega) (by omega) (by omega) (by omega)
      have e2 := fun w => t42 (M.x1 + 1) (Rc.x1 ⟨x, y, a, b⟩) M.y0 M.y1 w (by omega) (by omega) (by omega) (by omega)
      have e3 := fun w => t42 (Rc.x0 ⟨x, y, a, b⟩) (Rc.x1 ⟨x, y, a, b⟩) (M.y1 + 1) (Rc.y1 ⟨x, y, a, b⟩) w (by omega) (by omega) (by omega) (by omega)
      generalize rcOf (Rc.x0 ⟨x, y, a, b⟩) (Rc.x1 ⟨x, y, a, b⟩) (Rc.y0 ⟨x, y, a, b⟩) (M.y0 - 1) = R0 at *
      generalize rcOf (Rc.x0 ⟨x, y, a, b⟩) (M.x0 - 1) M.y0 M.y1 = R1 at *
      generalize rcOf (M.x1 + 1) (Rc.x1 ⟨x, y, a, b⟩) M.y0 M.y1 = R2 at *
      generalize rcOf (Rc.x0 ⟨x, y, a, b⟩) (Rc.x1 ⟨x, y, a, b⟩) (M.y1 + 1) (Rc.y1 ⟨x, y, a, b⟩) = R3 at *
      have k0 : IntKind.i64.wrap (M.y0 - 1) = M.y0 - 1 := IntWalk.i64_in _ (by omega)
      have k1 : IntKind.i64.wrap (M.x0 - 1) = M.x0 - 1 := IntWalk.i64_in _ (by omega)
      have k2 : IntKind.i64.wrap (M.x1 + 1) = M.x1 + 1 := IntWalk.i64_in _ (by omega)
      have k3 : IntKind.i64.wrap (M.y1 + 1) = M.y1 + 1 := IntWalk.i64_in _ (by omega)
      have D := Aside.mk4 d0 d1 d2 d3
      have hL4 : [R0, R1, R2, R3].length = 4 := rfl
      generalize hL : [R0, R1, R2, R3] = L at *
      have HL := Lib.hid hL
      clear hL
      have cm0 := fun w => t40_0 M.x M.y M.w M.h w m1 m2 m3 m4
      have cm1 := fun w => t40_1 M.x M.y M.w M.h w m1 m2 m3 m4
      have ce := fun w => t16 M.x M.y M.w M.h w m1 m2 m3 m4
      change ∀ w, Calls _ _ _ w fun e w' => e = .returned (.tuple #[.int .i64 M.x0, .int .i64 M.x1]) ∧ _ at cm0
      change ∀ w, Calls _ _ _ w fun e w' => e = .returned (.tuple #[.int .i64 M.y0, .int .i64 M.y1]) ∧ _ at cm1
      change ∀ w, Calls _ _ _ w fun e w' => e = .returned (.bool M.emp) ∧ _ at ce
      rw [h2] at ce
      unfold Rc.val at c24 e0 e1 e2 e3
      have C24 := Lib.hid c24
      have CM0 := Lib.hid cm0
      have CM1 := Lib.hid cm1
      have CE := Lib.hid ce
      have E0 := Lib.hid e0
      have E1 := Lib.hid e1
      have E2 := Lib.hid e2
      have E3 := Lib.hid e3
      clear c24 cm0 cm1 ce e0 e1 e2 e3 d0 d1 d2 d3 u1 u2 u3 u4 u5 u6 u7 u8 v1 v2 v3 v4 v5 v6 v7 v8 m1 m2 m3 m4
      go_enter Try.func33, Try.ntmps33
      go_wp2_with (first | (go_at_call 24; ((with_reducible refine (C24.out _).mono ?_)); rintro e wm ⟨rfl, hg⟩; obtain ⟨hc, hf⟩ := bcell hg.1; have hz : w.heap.size + 1 < wm.heap.size := (by have := hg.1.size; (try simp at this); omega); have hz0 : w.heap.size < wm.heap.size := (by omega); have G : Gr w wm := (by first | exact Gr.trans (by assumption) hg | (obtain ⟨G1, G2⟩ := G; refine Gr.trans ?_ hg; constructor <;> go_grown; done) | (refine Gr.trans ?_ hg; constructor <;> go_grown; done))) | (go_at_call 16; ((with_reducible refine (CE.out _).mono ?_)); rintro e w1 ⟨rfl, hg⟩; obtain ⟨hc, hf⟩ := bcell hg.1; have hz : w.heap.size + 1 < w1.heap.size := (by have := hg.1.size; (try simp at this); omega); have hz0 : w.heap.size < w1.heap.size := (by omega); (try (have hzm : wm.heap.size < w1.heap.size := (by have := hg.1.size; (try simp at this); omega))); have G : Gr w w1 := (by first | exact Gr.trans (by assumption) hg | (obtain ⟨G1, G2⟩ := G; refine Gr.trans ?_ hg; constructor <;> go_grown; done) | (refine Gr.trans ?_ hg; constructor <;> go_grown; done))) | (go_at_call 41; ((with_reducible refine (CM0.out _).mono ?_)); rintro e w1 ⟨rfl, hg⟩; obtain ⟨hc, hf⟩ := bcell hg.1; have hz : w.heap.size + 1 < w1.heap.size := (by have := hg.1.size; (try simp at this); omega); have hz0 : w.heap.size < w1.heap.size := (by omega); (try (have hzm : wm.heap.size < w1.heap.size := (by have := hg.1.size; (try simp at this); omega))); have G : Gr w w1 := (by first | exact Gr.trans (by assumption) hg | (obtain ⟨G1, G2⟩ := G; refine Gr.trans ?_ hg; constructor <;> go_grown; done) | (refine Gr.trans ?_ hg; constructor <;> go_grown; done))) | (go_at_call 41; ((with_reducible refine (CM1.out _).mono ?_)); rintro e w1 ⟨rfl, hg⟩; obtain ⟨hc, hf⟩ := bcell hg.1; have hz : w.heap.size + 1 < w1.heap.size := (by have := hg.1.size; (try simp at this); omega); have hz0 : w.heap.size < w1.heap.size := (by omega); (try (have hzm : wm.heap.size < w1.heap.size := (by have := hg.1.size; (try simp at this); omega))); have G : Gr w w1 := (by first | exact Gr.trans (by assumption) hg | (obtain ⟨G1, G2⟩ := G; refine Gr.trans ?_ hg; constructor <;> go_grown; done) | (refine Gr.trans ?_ hg; constructor <;> go_grown; done))) | (go_at_call 43; ((with_reducible refine (E0.out _).mono ?_)); rintro e w1 ⟨rfl, hg⟩; obtain ⟨hc, hf⟩ := bcell hg.1; have hz : w.heap.size + 1 < w1.heap.size := (by have := hg.1.size; (try simp at this); omega); have hz0 : w.heap.size < w1.heap.size := (by omega); (try (have hzm : wm.heap.size < w1.heap.size := (by have := hg.1.size; (try simp at this); omega))); have G : Gr w w1 := (by first | exact Gr.trans (by assumption) hg | (obtain ⟨G1, G2⟩ := G; refine Gr.trans ?_ hg; constructor <;> go_grown; done) | (refine Gr.trans ?_ hg; constructor <;> go_grown; done))) | (go_at_call 43; ((with_reducible refine (E1.out _).mono ?_)); rintro e w1 ⟨rfl, hg⟩; obtain ⟨hc, hf⟩ := bcell hg.1; have hz : w.heap.size + 1 < w1.heap.size := (by have := hg.1.size; (try simp at this); omega); have hz0 : w.heap.size < w1.heap.size := (by omega); (try (have hzm : wm.heap.size < w1.heap.size := (by have := hg.1.size; (try simp at this); omega))); have G : Gr w w1 := (by first | exact Gr.trans (by assumption) hg | (obtain ⟨G1, G2⟩ := G; refine Gr.trans ?_ hg; constructor <;> go_grown; done) | (refine Gr.trans ?_ hg; constructor <;> go_grown; done))) | (go_at_call 43; ((with_reducible refine (E2.out _).mono ?_)); rintro e w1 ⟨rfl, hg⟩; obtain ⟨hc, hf⟩ := bcell hg.1; have hz : w.heap.size + 1 < w1.heap.size := (by have := hg.1.size; (try simp at this); omega); have hz0 : w.heap.size < w1.heap.size := (by omega); (try (have hzm : wm.heap.size < w1.heap.size := (by have := hg.1.size; (try simp at this); omega))); have G : Gr w w1 := (by first | exact Gr.trans (by assumption) hg | (obtain ⟨G1, G2⟩ := G; refine Gr.trans ?_ hg; constructor <;> go_grown; done) | (refine Gr.trans ?_ hg; constructor <;> go_grown; done))) | (go_at_call 43; ((with_reducible refine (E3.out _).mono ?_)); rintro e w1 ⟨rfl, hg⟩; obtain ⟨hc, hf⟩ := bcell hg.1; have hz : w.heap.size + 1 < w1.heap.size := (by have := hg.1.size; (try simp at this); omega); have hz0 : w.heap.size < w1.heap.size := (by omega); (try (have hzm : wm.heap.size < w1.heap.size := (by have := hg.1.size; (try simp at this); omega))); have G : Gr w w1 := (by first | exact Gr.trans (by assumption) hg | (obtain ⟨G1, G2⟩ := G; refine Gr.trans ?_ hg; constructor <;> go_grown; done) | (refine Gr.trans ?_ hg; constructor <;> go_grown; done))) | (first | (go_at_call 16; refine (t16 _ _ _ _ _ (by assumption) (by assumption) (by assumption) (by assumption)).mono ?_; rintro e w1 ⟨rfl, hg⟩; obtain ⟨hc, hf⟩ := bcell hg.1; have hz : w.heap.size + 1 < w1.heap.size := (by have := hg.1.size; (try simp at this); omega); have hz0 : w.heap.size < w1.heap.size := (by omega); (try (have hzm : wm.heap.size < w1.heap.size := (by have := hg.1.size; (try simp at this); omega))); have G : Gr w w1 := (by first | exact Gr.trans (by assumption) hg | (obtain ⟨G1, G2⟩ := G; refine Gr.trans ?_ hg; constructor <;> go_grown; done) | (refine Gr.trans ?_ hg; constructor <;> go_grown; done))) | (go_at_call 41; ((with_reducible refine (t40_0 _ _ _ _ _ (by assumption) (by assumption) (by assumption) (by assumption)).mono ?_)); rintro e w1 ⟨rfl, hg⟩; obtain ⟨hc, hf⟩ := bcell hg.1; have hz : w.heap.size + 1 < w1.heap.size := (by have := hg.1.size; (try simp at this); omega); have hz0 : w.heap.size < w1.heap.size := (by omega); (try (have hzm : wm.heap.size < w1.heap.size := (by have := hg.1.size; (try simp at this); omega))); have G : Gr w w1 := (by first | exact Gr.trans (by assumption) hg | (obtain ⟨G1, G2⟩ := G; refine Gr.trans ?_ hg; constructor <;> go_grown; done) | (refine Gr.trans ?_ hg; constructor <;> go_grown; done))) | (go_at_call 41; ((with_reducible refine (t40_1 _ _ _ _ _ (by assumption) (by assumption) (by assumption) (by assumption)).mono ?_)); rintro e w1 ⟨rfl, hg⟩; obtain ⟨hc, hf⟩ := bcell hg.1; have hz : w.heap.size + 1 < w1.heap.size := (by have := hg.1.size; (try simp at this); omega); have hz0 : w.heap.size < w1.heap.size := (by omega); (try (have hzm : wm.heap.size < w1.heap.size := (by have := hg.1.size; (try simp at this); omega))); have G : Gr w w1 := (by first | exact Gr.trans (by assumption) hg | (obtain ⟨G1, G2⟩ := G; refine Gr.trans ?_ hg; constructor <;> go_grown; done) | (refine Gr.trans ?_ hg; constructor <;> go_grown; done)))))
      obtain ⟨i0, hi, hz0', hz1, hz2⟩ := info_parts info23
      obtain ⟨G1, G2⟩ := G
      have hcl := lit_cells w1 R0 R1 R2 R3 23
      have hbd := lit_bd D.out
      have hsz : (w1.alloc (.cells #[.int .i64 R0.x, .int .i64 R0.y, .int .i64 R0.w, .int .i64 R0.h, .int .i64 R1.x, .int .i64 R1.y, .int .i64 R1.w, .int .i64 R1.h, .int .i64 R2.x, .int .i64 R2.y, .int .i64 R2.w, .int .i64 R2.h, .int .i64 R3.x, .int .i64 R3.y, .int .i64 R3.w, .int .i64 R3.h] 23)).heap.size = w1.heap.size + 1 := by simp
      have hB0 : Below w.heap.size w (w1.alloc (.cells #[.int .i64 R0.x, .int .i64 R0.y, .int .i64 R0.w, .int .i64 R0.h, .int .i64 R1.x, .int .i64 R1.y, .int .i64 R1.w, .int .i64 R1.h, .int .i64 R2.x, .int .i64 R2.y, .int .i64 R2.w, .int .i64 R2.h, .int .i64 R3.x, .int .i64 R3.y, .int .i64 R3.w, .int .i64 R3.h] 23)) := G1.alloc G1.size _
      rw [HL.out] at hcl hbd
      clear HL
      generalize w1.alloc (.cells #[.int .i64 R0.x, .int .i64 R0.y, .int .i64 R0.w, .int .i64 R0.h, .int .i64 R1.x, .int .i64 R1.y, .int .i64 R1.w, .int .i64 R1.h, .int .i64 R2.x, .int .i64 R2.y, .int .i64 R2.w, .int .i64 R2.h, .int .i64 R3.x, .int .i64 R3.y, .int .i64 R3.w, .int .i64 R3.h] 23) = W0 at *
      clear C24 CM0 CM1 CE E0 E1 E2 E3 k0 k1 k2 k3 h1 h2 D
      go_loopw [15, 16] (fun v i wr => ∃ k : Nat, k ≤ 4 ∧ i = .int .i64 k ∧ wr.ownsRow (w1.heap.size + 1) 23 4 v (kep L k).length (cellsR (kep L k)) ∧ Below (w1.heap.size + 1) W0 wr) (fun _ i _ => 4 - (intOf i).toNat)
      case atStart => exact ⟨0, by omega, rfl, World.ownsRow_nil _ _ _ _, Below.refl _ _⟩
      case round =>
        obtain ⟨k, hk, rfl, hown, hnx⟩ := hrel
        have hws : w1.heap.size + 1 ≤ wr.heap.size := by have := hnx.size; omega
        by_cases hlt : k < 4
        · obtain ⟨f0, f1, f2, f3⟩ := hcl k hlt
          have g0 := (hnx.cell (p := ⟨w1.heap.size, k * 4, none⟩) (Nat.lt_succ_self _)).trans f0
          have g1 := (hnx.cell (p := ⟨w1.heap.size, k * 4 + 1, none⟩) (Nat.lt_succ_self _)).trans f1
          have g2 := (hnx.cell (p := ⟨w1.heap.size, k * 4 + 2, none⟩) (Nat.lt_succ_self _)).trans f2
          have g3 := (hnx.cell (p := ⟨w1.heap.size, k * 4 + 3, none⟩) (Nat.lt_succ_self _)).trans f3
          obtain ⟨⟨b1, b2⟩, b3, b4⟩ := hbd k hlt
          have hh := Lib.hid (kep_hit L k (by omega))
          have hm := Lib.hid (kep_miss L k (by omega))
          generalize L.getD k Rc.zero = S at *
          have ce := fun w => t16 S.x S.y S.w S.h w b1 b2 b3 b4
          change ∀ w, Calls _ _ _ w fun e w' => e = .returned (.bool S.emp) ∧ _ at ce
          clear f0 f1 f2 f3 b1 b2 b3 b4 hcl hbd
          cases he : S.emp
          · rw [he] at ce
            have CE := Lib.hid ce
            clear ce
            have hH := Lib.hid (hh.out he)
            clear hh hm he
            go_wp2_with (first | (go_at_call 16; ((with_reducible refine (CE.out _).mono ?_)); rintro e w2 ⟨rfl, hg2⟩; obtain ⟨hc2, hf2⟩ := bcell hg2.1; have hown2 := ownsRow_below hown hg2.1; have hz2' : w1.heap.size < wr.heap.size := (by omega)) | (at_builtin; refine wpList_append_own _ rfl _ _ 36 rfl (w1.heap.size + 1) 23 i0 (.agg #[.int .i64 0, .int .i64 0, .int .i64 0, .int .i64 0]) 4 32 Try.underlying36 hi hz0' hz1 hz2 rfl (by decide) _ _ _ rfl (hown2.alloc _) ⟨w2.heap.size, 0, none⟩ 1 1 [.int .i64 S.x, .int .i64 S.y, .int .i64 S.w, .int .i64 S.h] rfl rfl ?c1 ?c2 ?c3 ?c4 ?c5 ?_))
            case c1 =>
              intro j u hj
              match j, hj with
              | 0, hj => simp at hj; subst hj; simp [Addr.add]
              | 1, hj => simp at hj; subst hj; simp [Addr.add]
              | 2, hj => simp at hj; subst hj; simp [Addr.add]
              | 3, hj => simp at hj; subst hj; simp [Addr.add]
            case c2 => intro u hu; simp at hu; rcases hu with rfl | rfl | rfl | rfl <;> rfl
            case c3 => have := kep_le L k; unfold maxLen; omega
            case c4 => have := kep_le L k; omega
            case c5 => have := hg2.1.size; simp; omega
            intro v' w3 hown' hgrow _
            have hnx3 : Below (w1.heap.size + 1) W0 w3 := rel_append hnx hown hg2 hws hgrow
            have e1 := hH.out
            have e2 : (kep L (k + 1)).length = (kep L k).length + 1 := by rw [e1]; simp
            have e3 : cellsR (kep L (k + 1)) = cellsR (kep L k) ++ [.int .i64 S.x, .int .i64 S.y, .int .i64 S.w, .int .i64 S.h] := by rw [e1, cellsR_append]; rfl
            rw [← e2, ← e3] at hown'
            clear e1 e2 e3 hgrow hown hown2 hnx hc2 hf2 g0 g1 g2 g3
            go_wp2
            go_roundw
            case rel => exact ⟨k + 1, by omega, by simp, hown', hnx3⟩
            case measure => simp [intOf]; omega
          · rw [he] at ce
            have CE := Lib.hid ce
            clear ce
            have hM := Lib.hid (hm.out he)
            clear hh hm he
            go_wp2_with (go_at_call 16; ((with_reducible refine (CE.out _).mono ?_)); rintro e w2 ⟨rfl, hg2⟩; obtain ⟨hc2, hf2⟩ := bcell hg2.1; have hown2 := ownsRow_below hown hg2.1; have hz2' : w1.heap.size < wr.heap.size := (by omega))
            have hnx3 : Below (w1.heap.size + 1) W0 w2 := hnx.trans (hg2.1.mono hws)
            rw [← hM.out] at hown2
            clear hown hnx hc2 hf2 g0 g1 g2 g3
            go_roundw
            case rel => exact ⟨k + 1, by omega, by simp, hown2, hnx3⟩
            case measure => simp [intOf]; omega
        · obtain rfl : k = 4 := by omega
          go_wp2
          go_ret
          exact ⟨_, rfl, hB0.trans (hnx.mono (by have := G1.size; omega)), hown.mono (by have := G1.size; omega)⟩
    · have E : Rc.minus ⟨x, y, a, b⟩ ⟨p, q, c, d⟩ = [⟨x, y, a, b⟩] := by unfold Rc.minus; rw [h1, h2]; rfl
      rw [E]
      clear E
      generalize Rc.meet ⟨x, y, a, b⟩ ⟨p, q, c, d⟩ = M at *
      obtain ⟨mx, my, mw, mh⟩ := M
      simp only at m1 m2 m3 m4
      unfold Rc.val at c24
      have C24 := Lib.hid c24
      clear c24
      go_enter Try.func33, Try.ntmps33
      go_wp2_with (first | (go_at_call 24; ((with_reducible refine (C24.out _).mono ?_)); rintro e w1 ⟨rfl, hg⟩; obtain ⟨hc, hf⟩ := bcell hg.1; have hz : w.heap.size + 1 < w1.heap.size := (by have := hg.1.size; (try simp at this); omega); have hz0 : w.heap.size < w1.heap.size := (by omega); have G : Gr w w1 := (by first | exact Gr.trans (by assumption) hg | (obtain ⟨G1, G2⟩ := G; refine Gr.trans ?_ hg; constructor <;> go_grown; done) | (refine Gr.trans ?_ hg; constructor <;> go_grown; done))) | (first | (go_at_call 16; refine (t16 _ _ _ _ _ (by assumption) (by assumption) (by assumption) (by assumption)).mono ?_; rintro e w1 ⟨rfl, hg⟩; obtain ⟨hc, hf⟩ := bcell hg.1; have hz : w.heap.size + 1 < w1.heap.size := (by have := hg.1.size; (try simp at this); omega); have hz0 : w.heap.size < w1.heap.size := (by omega); have G : Gr w w1 := (by first | exact Gr.trans (by assumption) hg | (obtain ⟨G1, G2⟩ := G; refine Gr.trans ?_ hg; constructor <;> go_grown; done) | (refine Gr.trans ?_ hg; constructor <;> go_grown; done)))))
      go_ret
      exact ⟨_, rfl, G.1.alloc G.1.size _, by simp [cellsR], .inr ⟨w1.heap.size, 1, #[.int .i64 x, .int .i64 y, .int .i64 a, .int .i64 b], rfl, G.1.size, heap_alloc_new w1 _, Nat.le_refl _, by decide, rfl, rfl⟩⟩
  · have E : Rc.minus ⟨x, y, a, b⟩ ⟨p, q, c, d⟩ = [] := by unfold Rc.minus; rw [h1]; rfl
    rw [E]
    clear E
    go_enter Try.func33, Try.ntmps33
    go_wp2_with (first | (go_at_call 16; refine (t16 _ _ _ _ _ (by assumption) (by assumption) (by assumption) (by assumption)).mono ?_; rintro e w1 ⟨rfl, hg⟩; obtain ⟨hc, hf⟩ := bcell hg.1; have hz : w.heap.size + 1 < w1.heap.size := (by have := hg.1.size; (try simp at this); omega); have hz0 : w.heap.size < w1.heap.size := (by omega); have G : Gr w w1 := (by first | exact Gr.trans (by assumption) hg | (obtain ⟨G1, G2⟩ := G; refine Gr.trans ?_ hg; constructor <;> go_grown; done) | (refine Gr.trans ?_ hg; constructor <;> go_grown; done))))
    go_ret
    exact ⟨_, rfl, by obtain ⟨G1, G2⟩ := G; go_grown, World.ownsRow_nil _ _ _ _⟩
end Go.Proofs.Ytbkhfebopmeanaa
