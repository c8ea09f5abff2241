import Derived.Test.YtbkhfebopmeanaaProg
import Derived.WalkKit
import Derived.WalkLawsBesides
import Derived.Outline
import Derived.Lib.Walk
import Derived.Deep.QuietTactic
import Derived.BigQuiet
import Derived.RowKit3
import Derived.Deep.LoopGhost
import Derived.Great.Walk
import Derived.Great.BuildSlice
import Derived.Laws.Rows
import Derived.Laws.Tables
import Derived.Laws.CopyOwn
import Derived.Lib.Hide
import Derived.Handy
import Derived.Test.YtbkhfebopmeanaaV2
import Derived.Test.YtbkhfebopmeanaaV3
import Derived.Test.YtbkhfebopmeanaaV4
import Derived.Test.YtbkhfebopmeanaaVI
import Derived.Test.YtbkhfebopmeanaaVA
import Derived.Test.YtbkhfebopmeanaaVN
import Derived.Test.YtbkhfebopmeanaaVO
import Derived.Test.YtbkhfebopmeanaaVL
namespace Go.Proofs.Ytbkhfebopmeanaa
open Go.RowKit
set_option maxHeartbeats 400000
set_option linter.unusedVariables false
/-- what the law about pieces keeps: its two arguments and the list. -/
def Pst (w W : World) (x y a b p q c d : Int) (v : Value) (L : List Rc) : Prop :=
  Below w.heap.size w W ∧ w.heap.size + 1 < W.heap.size ∧ rec4 W w.heap.size x y a b ∧ rec4 W (w.heap.size + 1) p q c d ∧ W.ownsRow (w.heap.size + 1 + 1) 23 4 v L.length (cellsR L)
theorem Pst.below {w W W' : World} {x y a b p q c d : Int} {v : Value} {L : List Rc} (h : Pst w W x y a b p q c d v L) (hg : Below W.heap.size W W') : Pst w W' x y a b p q c d v L := by
  obtain ⟨h1, h2, h3, h4, h5⟩ := h
  have := hg.size
  exact ⟨Gb h1 hg, by omega, h3.below hg (by omega), h4.below hg (by omega), ownsRow_below h5 hg⟩
theorem Pst.start {w w1 : World} {x y a b p q c d : Int} {v : Value} {L : List Rc} (hg : Below ((w.alloc (.cells #[.int .i64 x, .int .i64 y, .int .i64 a, .int .i64 b] 23)).alloc (.cells #[.int .i64 p, .int .i64 q, .int .i64 c, .int .i64 d] 23)).heap.size ((w.alloc (.cells #[.int .i64 x, .int .i64 y, .int .i64 a, .int .i64 b] 23)).alloc (.cells #[.int .i64 p, .int .i64 q, .int .i64 c, .int .i64 d] 23)) w1) (ho : w1.ownsRow ((w.alloc (.cells #[.int .i64 x, .int .i64 y, .int .i64 a, .int .i64 b] 23)).alloc (.cells #[.int .i64 p, .int .i64 q, .int .i64 c, .int .i64 d] 23)).heap.size 23 4 v L.length (cellsR L)) : Pst w w1 x y a b p q c d v L := by
  have h3 : rec4 ((w.alloc (.cells #[.int .i64 x, .int .i64 y, .int .i64 a, .int .i64 b] 23)).alloc (.cells #[.int .i64 p, .int .i64 q, .int .i64 c, .int .i64 d] 23)) w.heap.size x y a b := rec4.alloc (rec4.new _ _ _ _ _ _) _ (by simp)
  have h4 : rec4 ((w.alloc (.cells #[.int .i64 x, .int .i64 y, .int .i64 a, .int .i64 b] 23)).alloc (.cells #[.int .i64 p, .int .i64 q, .int .i64 c, .int .i64 d] 23)) (w.heap.size + 1) p q c d := (rec4.new _ _ _ _ _ _).at (by simp)
  have hs := hg.size
  simp at hs
  refine ⟨?_, by omega, h3.below hg (by simp; omega), h4.below hg (by simp), ho.mono (by simp)⟩
  exact Below.trans (by go_grown) (hg.mono (by simp; omega))
/-- .. and one rectangle more, in a block of its own. -/
def Xst (w W : World) (x y a b p q c d : Int) (v : Value) (L : List Rc) (m : Nat) (X : Rc) : Prop :=
  Pst w W x y a b p q c d v L ∧ rec4 W m X.x X.y X.w X.h ∧ w.heap.size + 1 < m ∧ m < W.heap.size
theorem Xst.below {w W W' : World} {x y a b p q c d : Int} {v : Value} {L : List Rc} {m : Nat} {X : Rc} (h : Xst w W x y a b p q c d v L m X) (hg : Below W.heap.size W W') : Xst w W' x y a b p q c d v L m X := by
  obtain ⟨h1, h2, h3, h4⟩ := h
  have := hg.size
  exact ⟨h1.below hg, h2.below hg h4, h3, by omega⟩
theorem new_below (W : World) (o : Obj) : Below W.heap.size W (W.alloc o) := (Below.refl _ _).alloc (Nat.le_refl _) _
theorem Xst.put {w W : World} {x y a b p q c d : Int} {v : Value} {L : List Rc} (h : Pst w W x y a b p q c d v L) (X : Rc) :
    Xst w (W.alloc (.cells #[.int .i64 X.x, .int .i64 X.y, .int .i64 X.w, .int .i64 X.h] 23)) x y a b p q c d v L W.heap.size X := by
  have h2 := h.2.1
  exact ⟨h.below (new_below W _), rec4.new W _ _ _ _ 23, h2, by simp⟩
theorem row_at {W : World} {base g n cap : Nat} {L : List Rc} (h : W.ownsRow base 23 4 (.slice (some ⟨g, 0, none⟩) n cap) n (cellsR L)) (hl : L.length = n) (k : Nat) (hk : k < n) :
    W.cell? ⟨g, k * 4, none⟩ = some (.int .i64 (L.getD k Rc.zero).x) ∧ W.cell? ⟨g, k * 4 + 1, none⟩ = some (.int .i64 (L.getD k Rc.zero).y) ∧ W.cell? ⟨g, k * 4 + 2, none⟩ = some (.int .i64 (L.getD k Rc.zero).w) ∧ W.cell? ⟨g, k * 4 + 3, none⟩ = some (.int .i64 (L.getD k Rc.zero).h) := by
  obtain ⟨f0, f1, f2, f3⟩ := cellsR_at L k (by omega)
  exact ⟨(h.cellAt (k * 4) (by omega)).trans f0, (h.cellAt (k * 4 + 1) (by omega)).trans f1, (h.cellAt (k * 4 + 2) (by omega)).trans f2, (h.cellAt (k * 4 + 3) (by omega)).trans f3⟩
theorem row_form {W : World} {base n size : Nat} {e : TypeId} {v : Value} {xs : List Value} (h : W.ownsRow base e size v n xs) : ∃ ao cap, v = .slice ao n cap ∧ (0 < n → ∃ g, ao = some ⟨g, 0, none⟩) ∧ n ≤ cap ∧ cap ≤ maxLen := by
  rcases h.2 with ⟨rfl, rfl⟩ | ⟨g, cap, cur, rfl, _, _, h3, h4, _⟩
  · exact ⟨none, 0, rfl, fun h => absurd h (Nat.lt_irrefl 0), Nat.le_refl _, by decide⟩
  · exact ⟨_, cap, rfl, fun _ => ⟨g, rfl⟩, h3, h4⟩
theorem getD_mem (L : List Rc) (k : Nat) (h : k < L.length) : L.getD k Rc.zero ∈ L := by
  rw [List.getD_eq_getElem?_getD, List.getElem?_eq_getElem h]
  exact List.getElem_mem h
theorem pair_at {L : List Rc} (h : L.Pairwise (fun t u => (u.meet t).emp = true)) {j k : Nat} (hj : j < k) (hk : k < L.length) : ((L.getD k Rc.zero).meet (L.getD j Rc.zero)).emp = true := by
  rw [List.getD_eq_getElem?_getD, List.getD_eq_getElem?_getD, List.getElem?_eq_getElem hk, List.getElem?_eq_getElem (Nat.lt_trans hj hk)]
  exact List.pairwise_iff_getElem.1 h j k (Nat.lt_trans hj hk) hk hj
set_option maxHeartbeats 2000000 in
theorem piecesL (x y a b p q c d : Int) (w : World) (hx : -9223372036854775808 ≤ x ∧ x ≤ 9223372036854775807) (hy : -9223372036854775808 ≤ y ∧ y ≤ 9223372036854775807) (hp : -9223372036854775808 ≤ p ∧ p ≤ 9223372036854775807) (hq : -9223372036854775808 ≤ q ∧ q ≤ 9223372036854775807) : Calls Try.prog 9 #[.agg #[.int .i64 x, .int .i64 y, .int .i64 a, .int .i64 b], .agg #[.int .i64 p, .int .i64 q, .int .i64 c, .int .i64 d]] w fun e w' => e = .returned (.bool true) ∧ Below w.heap.size w w' := by
  obtain ⟨m1, m2, m3, m4⟩ := minus_facts ⟨x, y, a, b⟩ ⟨p, q, c, d⟩
  have cM := fun w => qMinus x y a b p q c d w hx hy hp hq
  have c1 := fun w => qMeet x y a b p q c d w hx hy hp hq
  have bM := meet_bd ⟨x, y, a, b⟩ ⟨p, q, c, d⟩
  have c2 := fun w => qArea (Rc.meet ⟨x, y, a, b⟩ ⟨p, q, c, d⟩).x (Rc.meet ⟨x, y, a, b⟩ ⟨p, q, c, d⟩).y (Rc.meet ⟨x, y, a, b⟩ ⟨p, q, c, d⟩).w (Rc.meet ⟨x, y, a, b⟩ ⟨p, q, c, d⟩).h w bM.1 bM.2
  have c3 := fun w => qArea x y a b w hx hy
  have al := area_le (Rc.meet ⟨x, y, a, b⟩ ⟨p, q, c, d⟩)
  change ∀ w, Calls _ _ _ w fun e w' => e = .returned (.int .i64 (Rc.meet ⟨x, y, a, b⟩ ⟨p, q, c, d⟩).area) ∧ _ at c2
  generalize (Rc.meet ⟨x, y, a, b⟩ ⟨p, q, c, d⟩) = M at *
  generalize M.area = mA at *
  rw [← m4] at c3
  have cW := fun (X : Rc) (h : X.big) w => qWithin X.x X.y X.w X.h x y a b w h.1 h.2 hx hy
  have cB := fun (X : Rc) (h : X.big) w => qMeet X.x X.y X.w X.h p q c d w h.1 h.2 hp hq
  generalize hL : Rc.minus ⟨x, y, a, b⟩ ⟨p, q, c, d⟩ = L at *
  unfold Rc.val at c1
  obtain ⟨n, hn⟩ : ∃ n, L.length = n := ⟨_, rfl⟩
  rw [hn] at cM m1
  have HN := Lib.hid hn
  clear hn
  have CM := Lib.hid cM
  have C1 := Lib.hid c1
  have C2 := Lib.hid c2
  have C3 := Lib.hid c3
  have C0 := Lib.hid awk
  have CW := Lib.hid cW
  have CB := Lib.hid cB
  have HL := Lib.hid hL
  have M2 := Lib.hid m2
  have M3 := Lib.hid m3
  clear cM c1 c2 c3 cW cB hL m2 m3 m4 bM
  go_enter Try.func9, Try.ntmps9
  go_wp2_with (first | (go_at_call 32; refine (CM.out _).mono ?_; rintro e w1 ⟨v, rfl, hg, hown⟩; obtain ⟨ao, cap, rfl, hao, hcap, hcap2⟩ := row_form hown; have hP : Pst w w1 x y a b p q c d (.slice ao n cap) L := Pst.start hg (by rw [HN.out]; exact hown); (try clear c00 f00 c01 f01 c02 f02 c03 f03 c10 f10 c11 f11 c12 f12 c13 f13); have hP' := hP; obtain ⟨-, hb1, q0, q1, -⟩ := hP'; obtain ⟨⟨c00, c01, c02, c03⟩, f00, f01, f02, f03⟩ := q0; obtain ⟨⟨c10, c11, c12, c13⟩, f10, f11, f12, f13⟩ := q1) | (go_at_call 12; ((with_reducible refine (C0.out _).mono ?_)); rintro e w1 ⟨rfl, hg⟩; have hP := Pst.below (by assumption) hg; (try clear c00 f00 c01 f01 c02 f02 c03 f03 c10 f10 c11 f11 c12 f12 c13 f13); have hP' := hP; obtain ⟨-, hb1, q0, q1, -⟩ := hP'; obtain ⟨⟨c00, c01, c02, c03⟩, f00, f01, f02, f03⟩ := q0; obtain ⟨⟨c10, c11, c12, c13⟩, f10, f11, f12, f13⟩ := q1) | (go_at_call 23; ((with_reducible refine (C1.out _).mono ?_)); rintro e w1 ⟨rfl, hg⟩; have hP := Pst.below (by assumption) hg; (try clear c00 f00 c01 f01 c02 f02 c03 f03 c10 f10 c11 f11 c12 f12 c13 f13); have hP' := hP; obtain ⟨-, hb1, q0, q1, -⟩ := hP'; obtain ⟨⟨c00, c01, c02, c03⟩, f00, f01, f02, f03⟩ := q0; obtain ⟨⟨c10, c11, c12, c13⟩, f10, f11, f12, f13⟩ := q1) | (go_at_call 19; ((with_reducible refine (C2.out _).mono ?_)); rintro e w1 ⟨rfl, hg⟩; have hP := Pst.below (by assumption) hg; (try clear c00 f00 c01 f01 c02 f02 c03 f03 c10 f10 c11 f11 c12 f12 c13 f13); have hP' := hP; obtain ⟨-, hb1, q0, q1, -⟩ := hP'; obtain ⟨⟨c00, c01, c02, c03⟩, f00, f01, f02, f03⟩ := q0; obtain ⟨⟨c10, c11, c12, c13⟩, f10, f11, f12, f13⟩ := q1))
  have R2 := Lib.hid hao
  have hP := hP
  clear hao c00 c01 c02 c03 f00 f01 f02 f03 c10 c11 c12 c13 f10 f11 f12 f13
  go_loopw [6, 27] (fun s i wr => ∃ k : Nat, k ≤ n ∧ i = .int .i64 (k : Int) ∧ s = .int .i64 (mA + asum (L.take k)) ∧ Pst w wr x y a b p q c d (.slice ao n cap) L) (fun _ i _ => (n - (intOf i).toNat))
  case atStart => exact ⟨0, by omega, rfl, by simp [asum_nil], by assumption⟩
  case round =>
    clear hP
    obtain ⟨k, hk, rfl, rfl, hP⟩ := hrel
    (try clear c00 f00 c01 f01 c02 f02 c03 f03 c10 f10 c11 f11 c12 f12 c13 f13); have hP' := hP; obtain ⟨-, hb1, q0, q1, -⟩ := hP'; obtain ⟨⟨c00, c01, c02, c03⟩, f00, f01, f02, f03⟩ := q0; obtain ⟨⟨c10, c11, c12, c13⟩, f10, f11, f12, f13⟩ := q1
    by_cases hlt : k < n
    · have hmem := getD_mem L k (by rw [HN.out]; exact hlt)
      obtain ⟨n1, n2, n3, n4⟩ := M2.out _ hmem
      have pw := fun j (hj : j < k) => pair_at M3.out hj (by rw [HN.out]; exact hlt)
      have tk := asum_take L k (by rw [HN.out]; exact hlt)
      have tb := asum_bd (L.take k)
      have tl : (L.take k).length ≤ 4 := by rw [List.length_take]; omega
      have big := fun j (hj : j < k) => (M2.out _ (getD_mem L j (by rw [HN.out]; omega))).2.2.2
      obtain ⟨g, rfl⟩ := R2.out (by omega)
      have hrow := fun W (h : Pst w W x y a b p q c d (.slice (some ⟨g, 0, none⟩) n cap) L) => row_at (L := L) (by have := h.2.2.2.2; rwa [HN.out] at this) HN.out
      obtain ⟨e0, e1, e2, e3⟩ := hrow _ hP k hlt
      have cE := fun w => qEmpty (L.getD k Rc.zero).x (L.getD k Rc.zero).y (L.getD k Rc.zero).w (L.getD k Rc.zero).h w n4.1 n4.2
      have cA := fun w => qArea (L.getD k Rc.zero).x (L.getD k Rc.zero).y (L.getD k Rc.zero).w (L.getD k Rc.zero).h w n4.1 n4.2
      have cW := CW.out _ n4
      have cB := CB.out _ n4
      have bR := meet_bd (L.getD k Rc.zero) ⟨p, q, c, d⟩
      have aX := area_le (L.getD k Rc.zero)
      have cP := fun j (hj : j < k) w => qMeet (L.getD k Rc.zero).x (L.getD k Rc.zero).y (L.getD k Rc.zero).w (L.getD k Rc.zero).h (L.getD j Rc.zero).x (L.getD j Rc.zero).y (L.getD j Rc.zero).w (L.getD j Rc.zero).h w n4.1 n4.2 (big j hj).1 (big j hj).2
      have bP := fun j => meet_bd (L.getD k Rc.zero) (L.getD j Rc.zero)
      generalize L.getD k Rc.zero = X at *
      change ∀ w, Calls _ _ _ w fun e w' => e = .returned (.bool X.emp) ∧ _ at cE
      change ∀ w, Calls _ _ _ w fun e w' => e = .returned (.int .i64 X.area) ∧ _ at cA
      change ∀ w, Calls _ _ _ w fun e w' => e = .returned (.bool (X.wit ⟨x, y, a, b⟩)) ∧ _ at cW
      change ∀ w, Calls _ _ _ w fun e w' => e = .returned (Rc.val (X.meet ⟨p, q, c, d⟩)) ∧ _ at cB
      rw [n1] at cE
      rw [n2] at cW
      generalize X.meet ⟨p, q, c, d⟩ = R at *
      have cR := fun w => qEmpty R.x R.y R.w R.h w bR.1 bR.2
      change ∀ w, Calls _ _ _ w fun e w' => e = .returned (.bool R.emp) ∧ _ at cR
      rw [n3] at cR
      generalize asum (L.take k) = sk at *
      generalize X.area = aK at *
      unfold Rc.val at cB
      have CE := Lib.hid cE
      have CA := Lib.hid cA
      have CW' := Lib.hid cW
      have CB' := Lib.hid cB
      have CR := Lib.hid cR
      have CP := Lib.hid cP
      have BP := Lib.hid bP
      have PW := Lib.hid pw
      have TK := Lib.hid tk
      have HR := Lib.hid hrow
      have kw : IntKind.i64.wrap (mA + sk + aK) = mA + sk + aK := IntWalk.i64_in _ (by omega)
      clear cE cA cW cB cR cP bP pw tk hrow big n1 n2 n3 n4 bR tb tl aX hmem
      go_wp2_with (first | (go_at_call 15; ((with_reducible refine (CE.out _).mono ?_)); rintro e w1 ⟨rfl, hg⟩; have hX := Xst.below (Xst.put hP X) hg; (try clear c00 f00 c01 f01 c02 f02 c03 f03 c10 f10 c11 f11 c12 f12 c13 f13 c20 f20 c21 f21 c22 f22 c23 f23); have hX' := hX; obtain ⟨⟨-, hb1, q0, q1, -⟩, q2, hb2, hb3⟩ := hX'; obtain ⟨⟨c00, c01, c02, c03⟩, f00, f01, f02, f03⟩ := q0; obtain ⟨⟨c10, c11, c12, c13⟩, f10, f11, f12, f13⟩ := q1; obtain ⟨⟨c20, c21, c22, c23⟩, f20, f21, f22, f23⟩ := q2) | (go_at_call 21; ((with_reducible refine (CW'.out _).mono ?_)); rintro e w1 ⟨rfl, hg⟩; have hX := Xst.below (by assumption) hg; (try clear c00 f00 c01 f01 c02 f02 c03 f03 c10 f10 c11 f11 c12 f12 c13 f13 c20 f20 c21 f21 c22 f22 c23 f23); have hX' := hX; obtain ⟨⟨-, hb1, q0, q1, -⟩, q2, hb2, hb3⟩ := hX'; obtain ⟨⟨c00, c01, c02, c03⟩, f00, f01, f02, f03⟩ := q0; obtain ⟨⟨c10, c11, c12, c13⟩, f10, f11, f12, f13⟩ := q1; obtain ⟨⟨c20, c21, c22, c23⟩, f20, f21, f22, f23⟩ := q2) | (go_at_call 23; ((with_reducible refine (CB'.out _).mono ?_)); rintro e w1 ⟨rfl, hg⟩; have hX := Xst.below (by assumption) hg; (try clear c00 f00 c01 f01 c02 f02 c03 f03 c10 f10 c11 f11 c12 f12 c13 f13 c20 f20 c21 f21 c22 f22 c23 f23); have hX' := hX; obtain ⟨⟨-, hb1, q0, q1, -⟩, q2, hb2, hb3⟩ := hX'; obtain ⟨⟨c00, c01, c02, c03⟩, f00, f01, f02, f03⟩ := q0; obtain ⟨⟨c10, c11, c12, c13⟩, f10, f11, f12, f13⟩ := q1; obtain ⟨⟨c20, c21, c22, c23⟩, f20, f21, f22, f23⟩ := q2) | (go_at_call 15; ((with_reducible refine (CR.out _).mono ?_)); rintro e w1 ⟨rfl, hg⟩; have hX := Xst.below (by assumption) hg; (try clear c00 f00 c01 f01 c02 f02 c03 f03 c10 f10 c11 f11 c12 f12 c13 f13 c20 f20 c21 f21 c22 f22 c23 f23); have hX' := hX; obtain ⟨⟨-, hb1, q0, q1, -⟩, q2, hb2, hb3⟩ := hX'; obtain ⟨⟨c00, c01, c02, c03⟩, f00, f01, f02, f03⟩ := q0; obtain ⟨⟨c10, c11, c12, c13⟩, f10, f11, f12, f13⟩ := q1; obtain ⟨⟨c20, c21, c22, c23⟩, f20, f21, f22, f23⟩ := q2))
      go_loopw [51] (fun i wi => ∃ j : Nat, j ≤ k ∧ i = .int .i64 (j : Int) ∧ Xst w wi x y a b p q c d (.slice (some ⟨g, 0, none⟩) n cap) L wr.heap.size X) (fun i _ => (k - (intOf i).toNat))
      case atStart => exact ⟨0, by omega, by simp, by assumption⟩
      case round =>
        clear hX
        obtain ⟨j, hj, rfl, hX⟩ := hrel
        (try clear c00 f00 c01 f01 c02 f02 c03 f03 c10 f10 c11 f11 c12 f12 c13 f13 c20 f20 c21 f21 c22 f22 c23 f23); have hX' := hX; obtain ⟨⟨-, hb1, q0, q1, -⟩, q2, hb2, hb3⟩ := hX'; obtain ⟨⟨c00, c01, c02, c03⟩, f00, f01, f02, f03⟩ := q0; obtain ⟨⟨c10, c11, c12, c13⟩, f10, f11, f12, f13⟩ := q1; obtain ⟨⟨c20, c21, c22, c23⟩, f20, f21, f22, f23⟩ := q2
        by_cases hjk : j < k
        · obtain ⟨g0, g1, g2, g3⟩ := HR.out _ hX.1 j (by omega)
          have cP := CP.out j hjk
          have bP := BP.out j
          have pw := PW.out j hjk
          generalize L.getD j Rc.zero = Y at *
          change ∀ w, Calls _ _ _ w fun e w' => e = .returned (Rc.val (X.meet Y)) ∧ _ at cP
          generalize X.meet Y = T at *
          have cT := fun w => qEmpty T.x T.y T.w T.h w bP.1 bP.2
          change ∀ w, Calls _ _ _ w fun e w' => e = .returned (.bool T.emp) ∧ _ at cT
          rw [pw] at cT
          unfold Rc.val at cP
          have CT := Lib.hid cT
          have CQ := Lib.hid cP
          have kj : IntKind.i64.wrap ((j : Int) + 1) = (j : Int) + 1 := IntWalk.i64_in _ (by omega)
          clear cT cP pw bP
          go_wp2_with (first | (go_at_call 23; ((with_reducible refine (CQ.out _).mono ?_)); rintro e w1 ⟨rfl, hg⟩; have hX := Xst.below (Xst.below hX (new_below _ _)) hg; (try clear c00 f00 c01 f01 c02 f02 c03 f03 c10 f10 c11 f11 c12 f12 c13 f13 c20 f20 c21 f21 c22 f22 c23 f23); have hX' := hX; obtain ⟨⟨-, hb1, q0, q1, -⟩, q2, hb2, hb3⟩ := hX'; obtain ⟨⟨c00, c01, c02, c03⟩, f00, f01, f02, f03⟩ := q0; obtain ⟨⟨c10, c11, c12, c13⟩, f10, f11, f12, f13⟩ := q1; obtain ⟨⟨c20, c21, c22, c23⟩, f20, f21, f22, f23⟩ := q2) | (go_at_call 15; ((with_reducible refine (CT.out _).mono ?_)); rintro e w1 ⟨rfl, hg⟩; have hX := Xst.below (by assumption) hg; (try clear c00 f00 c01 f01 c02 f02 c03 f03 c10 f10 c11 f11 c12 f12 c13 f13 c20 f20 c21 f21 c22 f22 c23 f23); have hX' := hX; obtain ⟨⟨-, hb1, q0, q1, -⟩, q2, hb2, hb3⟩ := hX'; obtain ⟨⟨c00, c01, c02, c03⟩, f00, f01, f02, f03⟩ := q0; obtain ⟨⟨c10, c11, c12, c13⟩, f10, f11, f12, f13⟩ := q1; obtain ⟨⟨c20, c21, c22, c23⟩, f20, f21, f22, f23⟩ := q2))
          go_roundw
          case rel => exact ⟨j + 1, by omega, by simp, by assumption⟩
          case measure => simp [intOf]; omega
        · obtain rfl : j = k := by omega
          have kj : IntKind.i64.wrap ((j : Int) + 1) = (j : Int) + 1 := IntWalk.i64_in _ (by omega)
          go_wp2_with (first | (go_at_call 19; ((with_reducible refine (CA.out _).mono ?_)); rintro e w1 ⟨rfl, hg⟩; have hX := Xst.below (by assumption) hg; (try clear c00 f00 c01 f01 c02 f02 c03 f03 c10 f10 c11 f11 c12 f12 c13 f13 c20 f20 c21 f21 c22 f22 c23 f23); have hX' := hX; obtain ⟨⟨-, hb1, q0, q1, -⟩, q2, hb2, hb3⟩ := hX'; obtain ⟨⟨c00, c01, c02, c03⟩, f00, f01, f02, f03⟩ := q0; obtain ⟨⟨c10, c11, c12, c13⟩, f10, f11, f12, f13⟩ := q1; obtain ⟨⟨c20, c21, c22, c23⟩, f20, f21, f22, f23⟩ := q2))
          go_roundw
          case rel => exact ⟨j + 1, by omega, by simp, by rw [TK.out, Int.add_assoc], hX.1⟩
          case measure => simp [intOf]; omega
    · obtain rfl : k = n := by omega
      rw [← HN.out, List.take_length] at *
      go_wp2_with (first | (go_at_call 19; ((with_reducible refine (C3.out _).mono ?_)); rintro e w1 ⟨rfl, hg⟩; have hP := Pst.below (by assumption) hg; (try clear c00 f00 c01 f01 c02 f02 c03 f03 c10 f10 c11 f11 c12 f12 c13 f13); have hP' := hP; obtain ⟨-, hb1, q0, q1, -⟩ := hP'; obtain ⟨⟨c00, c01, c02, c03⟩, f00, f01, f02, f03⟩ := q0; obtain ⟨⟨c10, c11, c12, c13⟩, f10, f11, f12, f13⟩ := q1))
      go_ret
      exact ⟨by simp, hP.1⟩

end Go.Proofs.Ytbkhfebopmeanaa
