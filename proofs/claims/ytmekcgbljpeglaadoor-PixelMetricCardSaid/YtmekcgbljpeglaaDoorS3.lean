import Derived.Test.YtmekcgbljpeglaaDoorProg
import Derived.WalkKit
import Derived.WalkLawsBesides
import Derived.Outline
import Derived.Lib.Walk
import Derived.Deep.QuietTactic
import Derived.BigQuiet
import Derived.RowKit3
import Derived.Deep.LoopGhost
import Derived.Laws.Rows
import Derived.Laws.Tables
import Derived.Laws.CopyOwn
import Derived.Lib.Hide
import Derived.Handy
import Derived.Deep.Onto
import Derived.IntWalk
import Derived.Test.YtmekcgbljpeglaaDoorA1
import Derived.Test.YtmekcgbljpeglaaDoorA2
import Derived.Test.YtmekcgbljpeglaaDoorQT
import Derived.Test.YtmekcgbljpeglaaDoorEQ
import Derived.Test.YtmekcgbljpeglaaDoorB1
import Derived.Test.YtmekcgbljpeglaaDoorB2
import Derived.Test.YtmekcgbljpeglaaDoorB3
import Derived.Test.YtmekcgbljpeglaaDoorS1
namespace Go.Proofs.YtmekcgbljpeglaaDoor
open Go.RowKit
set_option maxHeartbeats 400000
set_option linter.unusedVariables false

set_option maxHeartbeats 2000000 in
theorem s18 (p : Px) (w : World) : Calls Tryd.prog 18 #[p.val] w fun e w' => e = .returned p.str.val ∧ Below w.heap.size w w' := by
  obtain ⟨r, g, b, a⟩ := p
  have c1 := fun w => s14 ⟨r, g, b, a⟩ w
  unfold Px.val Px.lim at c1
  dsimp only at c1
  have C1 := Lib.hid c1
  clear c1
  by_cases h0 : un a = 0
  · rw [str_zero _ h0]
    rw [h0] at C1
    have h1 : ((0 : Int) == 0) = true := rfl
    generalize un r = ur at *
    generalize un g = ug at *
    generalize un b = ub at *
    unfold Px.val
    dsimp only
    go_enter Tryd.func18, Tryd.ntmps18
    have R00 : rec4 ((w.alloc (.cells #[.int .i64 r, .int .i64 g, .int .i64 b, .int .i64 a] 23)).alloc (.cells #[.int .i64 0, .int .i64 0, .int .i64 0, .int .i64 0] 23)) w.heap.size r g b a := rec4.alloc (rec4.new w r g b a 23) _ (by simp)
    have R01 : rec4 ((w.alloc (.cells #[.int .i64 r, .int .i64 g, .int .i64 b, .int .i64 a] 23)).alloc (.cells #[.int .i64 0, .int .i64 0, .int .i64 0, .int .i64 0] 23)) (w.heap.size + 1) 0 0 0 0 := by
      have := rec4.new (w.alloc (.cells #[.int .i64 r, .int .i64 g, .int .i64 b, .int .i64 a] 23)) 0 0 0 0 23
      simpa using this
    go_wp2_with (go_at_call 14; fail)
    (with_reducible refine (C1.out _).mono ?_)
    rintro e1 w1 ⟨rfl, hg⟩
    have hs1 := hg.size
    (try simp at hs1)
    have R10 : rec4 w1 (w.heap.size) (r) (g) (b) (a) := rec4.below (by with_reducible first | assumption | exact rec4.own (by assumption) | exact rec4.other (by assumption) _ _ _ _ (by omega) | exact rec4.own (rec4.other (by assumption) _ _ _ _ (by omega)) | exact rec4.other (rec4.own (by assumption)) _ _ _ _ (by omega) | exact rec4.drew (by assumption)) hg (by simp; try omega)
    have R11 : rec4 w1 (w.heap.size + 1) (0) (0) (0) (0) := rec4.below (by with_reducible first | assumption | exact rec4.own (by assumption) | exact rec4.other (by assumption) _ _ _ _ (by omega) | exact rec4.own (rec4.other (by assumption) _ _ _ _ (by omega)) | exact rec4.other (rec4.own (by assumption)) _ _ _ _ (by omega) | exact rec4.drew (by assumption)) hg (by simp; try omega)
    have B1 : Below w.heap.size w w1 := bel_up hg (by go_grown <;> first | exact Below.refl _ _ | exact B0 | exact bel_al (Below.refl _ _) _ | exact bel_al (bel_al (Below.refl _ _) _) _)
    have hz10 : w.heap.size < w1.heap.size := by omega
    have hz11 : w.heap.size + 1 < w1.heap.size := by omega
    clear hg
    obtain ⟨⟨c100, c101, c102, c103⟩, f100, f101, f102, f103⟩ := R10.cells
    obtain ⟨⟨c110, c111, c112, c113⟩, f110, f111, f112, f113⟩ := R11.cells
    go_wp2
    exact bodyPost_ret (v := .agg #[.int .i64 (0), .int .i64 (0), .int .i64 (0), .int .i64 (0)]) (by simp [results, Tryd.results18, go_sem, *]) rfl ⟨rfl, by go_grown <;> exact B1⟩
  · unfold Px.str
    dsimp only
    have hr := un_lo r; have Hr := un_hi r
    have hg := un_lo g; have Hg := un_hi g
    have hb := un_lo b; have Hb := un_hi b
    have ha := un_lo a; have Ha := un_hi a
    have xr : un (dvi (un r * 65535) (un a)) = quou r a := quou_ref r a (by have := un_lo a; omega)
    generalize quou r a = qr at *
    have xg : un (dvi (un g * 65535) (un a)) = quou g a := quou_ref g a (by have := un_lo a; omega)
    generalize quou g a = qg at *
    have xb : un (dvi (un b * 65535) (un a)) = quou b a := quou_ref b a (by have := un_lo a; omega)
    generalize quou b a = qb at *
    generalize un r = ur at *
    generalize un g = ug at *
    generalize un b = ub at *
    generalize un a = ua at *
    obtain ⟨pr, er⟩ : ∃ pr, pr = ur * 65535 := ⟨_, rfl⟩
    have mr : IntKind.i64.wrap (ur * 65535) = pr := by rw [← er]; exact IntWalk.i64_in _ (by omega)
    have Cr := Lib.hid (fun w => t15 pr ua w (by omega) (by omega) (by omega) (by omega))
    have Kr : Hid (∀ w, Calls Tryd.prog 37 #[.int .i64 (dvi pr ua)] w fun e w' => e = .returned (.int .i64 qr) ∧ ∃ k, w' = w.drewN k) := Lib.hid fun w => (sq37 (dvi pr ua) w).mono fun e w' ⟨h, h'⟩ => ⟨by rw [h, er, xr], h'⟩
    generalize dvi pr ua = Dr at *
    clear er
    obtain ⟨pg, eg⟩ : ∃ pg, pg = ug * 65535 := ⟨_, rfl⟩
    have mg : IntKind.i64.wrap (ug * 65535) = pg := by rw [← eg]; exact IntWalk.i64_in _ (by omega)
    have Cg := Lib.hid (fun w => t15 pg ua w (by omega) (by omega) (by omega) (by omega))
    have Kg : Hid (∀ w, Calls Tryd.prog 37 #[.int .i64 (dvi pg ua)] w fun e w' => e = .returned (.int .i64 qg) ∧ ∃ k, w' = w.drewN k) := Lib.hid fun w => (sq37 (dvi pg ua) w).mono fun e w' ⟨h, h'⟩ => ⟨by rw [h, eg, xg], h'⟩
    generalize dvi pg ua = Dg at *
    clear eg
    obtain ⟨pb, eb⟩ : ∃ pb, pb = ub * 65535 := ⟨_, rfl⟩
    have mb : IntKind.i64.wrap (ub * 65535) = pb := by rw [← eb]; exact IntWalk.i64_in _ (by omega)
    have Cb := Lib.hid (fun w => t15 pb ua w (by omega) (by omega) (by omega) (by omega))
    have Kb : Hid (∀ w, Calls Tryd.prog 37 #[.int .i64 (dvi pb ua)] w fun e w' => e = .returned (.int .i64 qb) ∧ ∃ k, w' = w.drewN k) := Lib.hid fun w => (sq37 (dvi pb ua) w).mono fun e w' ⟨h, h'⟩ => ⟨by rw [h, eb, xb], h'⟩
    generalize dvi pb ua = Db at *
    clear eb
    have h1 : (ua == 0) = false := by simpa using h0
    clear hr Hr hg Hg hb Hb ha Ha h0 xr xg xb
    unfold Px.val
    dsimp only
    go_enter Tryd.func18, Tryd.ntmps18
    have R00 : rec4 ((w.alloc (.cells #[.int .i64 r, .int .i64 g, .int .i64 b, .int .i64 a] 23)).alloc (.cells #[.int .i64 0, .int .i64 0, .int .i64 0, .int .i64 0] 23)) w.heap.size r g b a := rec4.alloc (rec4.new w r g b a 23) _ (by simp)
    have R01 : rec4 ((w.alloc (.cells #[.int .i64 r, .int .i64 g, .int .i64 b, .int .i64 a] 23)).alloc (.cells #[.int .i64 0, .int .i64 0, .int .i64 0, .int .i64 0] 23)) (w.heap.size + 1) 0 0 0 0 := by
      have := rec4.new (w.alloc (.cells #[.int .i64 r, .int .i64 g, .int .i64 b, .int .i64 a] 23)) 0 0 0 0 23
      simpa using this
    go_wp2_with (go_at_call 14; fail)
    (with_reducible refine (C1.out _).mono ?_)
    rintro e1 w1 ⟨rfl, hg⟩
    have hs1 := hg.size
    (try simp at hs1)
    have R10 : rec4 w1 (w.heap.size) (r) (g) (b) (a) := rec4.below (by with_reducible first | assumption | exact rec4.own (by assumption) | exact rec4.other (by assumption) _ _ _ _ (by omega) | exact rec4.own (rec4.other (by assumption) _ _ _ _ (by omega)) | exact rec4.other (rec4.own (by assumption)) _ _ _ _ (by omega) | exact rec4.drew (by assumption)) hg (by simp; try omega)
    have R11 : rec4 w1 (w.heap.size + 1) (0) (0) (0) (0) := rec4.below (by with_reducible first | assumption | exact rec4.own (by assumption) | exact rec4.other (by assumption) _ _ _ _ (by omega) | exact rec4.own (rec4.other (by assumption) _ _ _ _ (by omega)) | exact rec4.other (rec4.own (by assumption)) _ _ _ _ (by omega) | exact rec4.drew (by assumption)) hg (by simp; try omega)
    have B1 : Below w.heap.size w w1 := bel_up hg (by go_grown <;> first | exact Below.refl _ _ | exact B0 | exact bel_al (Below.refl _ _) _ | exact bel_al (bel_al (Below.refl _ _) _) _)
    have hz10 : w.heap.size < w1.heap.size := by omega
    have hz11 : w.heap.size + 1 < w1.heap.size := by omega
    clear hg
    obtain ⟨⟨c100, c101, c102, c103⟩, f100, f101, f102, f103⟩ := R10.cells
    obtain ⟨⟨c110, c111, c112, c113⟩, f110, f111, f112, f113⟩ := R11.cells
    go_wp2_with fail
    clear C1 R00 R01
    have S10 : rec4 ((((w1.setCell ⟨w.heap.size, 0, none⟩ (.int .i64 (ur))).setCell ⟨w.heap.size, 1, none⟩ (.int .i64 (ug))).setCell ⟨w.heap.size, 2, none⟩ (.int .i64 (ub))).setCell ⟨w.heap.size, 3, none⟩ (.int .i64 (ua))) (w.heap.size) (ur) (ug) (ub) (ua) := rec4.own R10
    have S11 : rec4 ((((w1.setCell ⟨w.heap.size, 0, none⟩ (.int .i64 (ur))).setCell ⟨w.heap.size, 1, none⟩ (.int .i64 (ug))).setCell ⟨w.heap.size, 2, none⟩ (.int .i64 (ub))).setCell ⟨w.heap.size, 3, none⟩ (.int .i64 (ua))) (w.heap.size + 1) (0) (0) (0) (0) := rec4.other R11 _ _ _ _ (by omega)
    have BS1 : Below w.heap.size w ((((w1.setCell ⟨w.heap.size, 0, none⟩ (.int .i64 (ur))).setCell ⟨w.heap.size, 1, none⟩ (.int .i64 (ug))).setCell ⟨w.heap.size, 2, none⟩ (.int .i64 (ub))).setCell ⟨w.heap.size, 3, none⟩ (.int .i64 (ua))) := by go_grown
    have sz10 : w.heap.size < ((((w1.setCell ⟨w.heap.size, 0, none⟩ (.int .i64 (ur))).setCell ⟨w.heap.size, 1, none⟩ (.int .i64 (ug))).setCell ⟨w.heap.size, 2, none⟩ (.int .i64 (ub))).setCell ⟨w.heap.size, 3, none⟩ (.int .i64 (ua))).heap.size := by simp; omega
    have sz11 : w.heap.size + 1 < ((((w1.setCell ⟨w.heap.size, 0, none⟩ (.int .i64 (ur))).setCell ⟨w.heap.size, 1, none⟩ (.int .i64 (ug))).setCell ⟨w.heap.size, 2, none⟩ (.int .i64 (ub))).setCell ⟨w.heap.size, 3, none⟩ (.int .i64 (ua))).heap.size := by simp; omega
    clear R10 hz10 c100 f100 c101 f101 c102 f102 c103 f103 R11 hz11 c110 f110 c111 f111 c112 f112 c113 f113 B1 hs1
    generalize ((((w1.setCell ⟨w.heap.size, 0, none⟩ (.int .i64 (ur))).setCell ⟨w.heap.size, 1, none⟩ (.int .i64 (ug))).setCell ⟨w.heap.size, 2, none⟩ (.int .i64 (ub))).setCell ⟨w.heap.size, 3, none⟩ (.int .i64 (ua))) = W1 at *
    clear w1
    obtain ⟨⟨d100, d101, d102, d103⟩, g100, g101, g102, g103⟩ := S10.cells
    clear g100 g101 g102 g103
    obtain ⟨⟨d110, d111, d112, d113⟩, g110, g111, g112, g113⟩ := S11.cells
    refine wp_region_quiet_tail 24 (by kernel_rfl) (by kernel_rfl) ?_
    simp only [List.take_succ_cons, List.take_zero, List.drop_succ_cons, List.drop_zero]
    repeat (quiet_step ((first | (go_at_call 42; with_reducible exact Calls.quiet_of (Cr.out _)) | (go_at_call 37; with_reducible exact Calls.quiet_of (Kr.out _)) | (go_at_call 42; with_reducible exact Calls.quiet_of (Cg.out _)) | (go_at_call 37; with_reducible exact Calls.quiet_of (Kg.out _)) | (go_at_call 42; with_reducible exact Calls.quiet_of (Cb.out _)) | (go_at_call 37; with_reducible exact Calls.quiet_of (Kb.out _)))))
    refine wpQuiet_nil ?_
    intro _ hw'
    obtain ⟨nq2, hw''⟩ := hw'
    subst hw''
    go_wp2
    exact bodyPost_ret (v := .agg #[.int .i64 (qr), .int .i64 (qg), .int .i64 (qb), .int .i64 (ua)]) (by simp [results, Tryd.results18, go_sem, *]) rfl ⟨rfl, by go_grown <;> exact bel_dr (by go_grown <;> exact BS1) _⟩

set_option maxHeartbeats 2000000 in
theorem s20 (p : Px) (t : Int) (w : World) : Calls Tryd.prog 20 #[p.val, .int .i64 t] w fun e w' => e = .returned (p.fade t).val ∧ Below w.heap.size w w' := by
  obtain ⟨r, g, b, a⟩ := p
  have c1 := fun w => s14 ⟨r, g, b, a⟩ w
  unfold Px.val Px.lim at c1
  dsimp only at c1
  have C1 := Lib.hid c1
  clear c1
  unfold Px.fade mulu
  dsimp only
  have hr := un_lo r; have Hr := un_hi r
  have hg := un_lo g; have Hg := un_hi g
  have hb := un_lo b; have Hb := un_hi b
  have ha := un_lo a; have Ha := un_hi a
  have ht := un_lo t; have Ht := un_hi t
  have K := Lib.hid (fun w => sq37 t w)
  generalize un r = ur at *
  generalize un g = ug at *
  generalize un b = ub at *
  generalize un a = ua at *
  generalize un t = ut at *
  obtain ⟨m, hm⟩ : ∃ m, m = ua * ut := ⟨_, rfl⟩
  have m1 : 0 ≤ m := by rw [hm]; exact Int.mul_nonneg ha ht
  have m2 : m ≤ 65535 * 65535 := by rw [hm]; exact Int.mul_le_mul Ha Ht ht (by omega)
  have e1 : IntKind.i64.wrap (ua * ut) = m := by rw [← hm]; exact IntWalk.i64_in _ (by omega)
  rw [← hm]
  have C := Lib.hid (fun w => t15 m 65535 w (by omega) (by omega) (by omega) (by omega))
  generalize dvi m 65535 = M at *
  clear hm m1 m2 hr Hr hg Hg hb Hb ha Ha ht Ht
  obtain ⟨R, hR⟩ : ∃ R : Px, R = (if M = 0 then ⟨0, 0, 0, 0⟩ else ⟨ur, ug, ub, M⟩) := ⟨_, rfl⟩
  rw [← hR]
  rw [show Px.val ⟨r, g, b, a⟩ = .agg #[.int .i64 r, .int .i64 g, .int .i64 b, .int .i64 a] from rfl]
  go_enter Tryd.func20, Tryd.ntmps20
  have R00 : rec4 ((w.alloc (.cells #[.int .i64 r, .int .i64 g, .int .i64 b, .int .i64 a] 23)).alloc (.cells #[.int .i64 0, .int .i64 0, .int .i64 0, .int .i64 0] 23)) w.heap.size r g b a := rec4.alloc (rec4.new w r g b a 23) _ (by simp)
  have R01 : rec4 ((w.alloc (.cells #[.int .i64 r, .int .i64 g, .int .i64 b, .int .i64 a] 23)).alloc (.cells #[.int .i64 0, .int .i64 0, .int .i64 0, .int .i64 0] 23)) (w.heap.size + 1) 0 0 0 0 := by
    have := rec4.new (w.alloc (.cells #[.int .i64 r, .int .i64 g, .int .i64 b, .int .i64 a] 23)) 0 0 0 0 23
    simpa using this
  go_wp2_with (go_at_call 14; fail)
  (with_reducible refine (C1.out _).mono ?_)
  rintro e1 w1 ⟨rfl, hg⟩
  have hs1 := hg.size
  (try simp at hs1)
  have R10 : rec4 w1 (w.heap.size) (r) (g) (b) (a) := rec4.below (by with_reducible first | assumption | exact rec4.own (by assumption) | exact rec4.other (by assumption) _ _ _ _ (by omega) | exact rec4.own (rec4.other (by assumption) _ _ _ _ (by omega)) | exact rec4.other (rec4.own (by assumption)) _ _ _ _ (by omega) | exact rec4.drew (by assumption)) hg (by simp; try omega)
  have R11 : rec4 w1 (w.heap.size + 1) (0) (0) (0) (0) := rec4.below (by with_reducible first | assumption | exact rec4.own (by assumption) | exact rec4.other (by assumption) _ _ _ _ (by omega) | exact rec4.own (rec4.other (by assumption) _ _ _ _ (by omega)) | exact rec4.other (rec4.own (by assumption)) _ _ _ _ (by omega) | exact rec4.drew (by assumption)) hg (by simp; try omega)
  have B1 : Below w.heap.size w w1 := bel_up hg (by go_grown <;> first | exact Below.refl _ _ | exact B0 | exact bel_al (Below.refl _ _) _ | exact bel_al (bel_al (Below.refl _ _) _) _)
  have hz10 : w.heap.size < w1.heap.size := by omega
  have hz11 : w.heap.size + 1 < w1.heap.size := by omega
  clear hg
  obtain ⟨⟨c100, c101, c102, c103⟩, f100, f101, f102, f103⟩ := R10.cells
  obtain ⟨⟨c110, c111, c112, c113⟩, f110, f111, f112, f113⟩ := R11.cells
  go_wp2_with fail
  clear C1 R00 R01
  have S10 : rec4 ((((w1.setCell ⟨w.heap.size, 0, none⟩ (.int .i64 (ur))).setCell ⟨w.heap.size, 1, none⟩ (.int .i64 (ug))).setCell ⟨w.heap.size, 2, none⟩ (.int .i64 (ub))).setCell ⟨w.heap.size, 3, none⟩ (.int .i64 (ua))) (w.heap.size) (ur) (ug) (ub) (ua) := rec4.own R10
  have S11 : rec4 ((((w1.setCell ⟨w.heap.size, 0, none⟩ (.int .i64 (ur))).setCell ⟨w.heap.size, 1, none⟩ (.int .i64 (ug))).setCell ⟨w.heap.size, 2, none⟩ (.int .i64 (ub))).setCell ⟨w.heap.size, 3, none⟩ (.int .i64 (ua))) (w.heap.size + 1) (0) (0) (0) (0) := rec4.other R11 _ _ _ _ (by omega)
  have BS1 : Below w.heap.size w ((((w1.setCell ⟨w.heap.size, 0, none⟩ (.int .i64 (ur))).setCell ⟨w.heap.size, 1, none⟩ (.int .i64 (ug))).setCell ⟨w.heap.size, 2, none⟩ (.int .i64 (ub))).setCell ⟨w.heap.size, 3, none⟩ (.int .i64 (ua))) := by go_grown
  have sz10 : w.heap.size < ((((w1.setCell ⟨w.heap.size, 0, none⟩ (.int .i64 (ur))).setCell ⟨w.heap.size, 1, none⟩ (.int .i64 (ug))).setCell ⟨w.heap.size, 2, none⟩ (.int .i64 (ub))).setCell ⟨w.heap.size, 3, none⟩ (.int .i64 (ua))).heap.size := by simp; omega
  have sz11 : w.heap.size + 1 < ((((w1.setCell ⟨w.heap.size, 0, none⟩ (.int .i64 (ur))).setCell ⟨w.heap.size, 1, none⟩ (.int .i64 (ug))).setCell ⟨w.heap.size, 2, none⟩ (.int .i64 (ub))).setCell ⟨w.heap.size, 3, none⟩ (.int .i64 (ua))).heap.size := by simp; omega
  clear R10 hz10 c100 f100 c101 f101 c102 f102 c103 f103 R11 hz11 c110 f110 c111 f111 c112 f112 c113 f113 B1 hs1
  generalize ((((w1.setCell ⟨w.heap.size, 0, none⟩ (.int .i64 (ur))).setCell ⟨w.heap.size, 1, none⟩ (.int .i64 (ug))).setCell ⟨w.heap.size, 2, none⟩ (.int .i64 (ub))).setCell ⟨w.heap.size, 3, none⟩ (.int .i64 (ua))) = W1 at *
  clear w1
  obtain ⟨⟨d100, d101, d102, d103⟩, g100, g101, g102, g103⟩ := S10.cells
  obtain ⟨⟨d110, d111, d112, d113⟩, g110, g111, g112, g113⟩ := S11.cells
  refine wp_region_quiet_tail 7 (by kernel_rfl) (by kernel_rfl) ?_
  simp only [List.take_succ_cons, List.take_zero, List.drop_succ_cons, List.drop_zero]
  repeat (quiet_step ((first | (go_at_call 42; with_reducible exact Calls.quiet_of (C.out _)) | (go_at_call 37; with_reducible exact Calls.quiet_of (K.out _)))))
  refine wpQuiet_nil ?_
  intro _ hw'
  obtain ⟨nq2, hw''⟩ := hw'
  subst hw''
  by_cases h0 : M = 0
  · have h1 : (M == 0) = true := by simpa using h0
    go_wp2
    exact bodyPost_ret (v := .agg #[.int .i64 (0), .int .i64 (0), .int .i64 (0), .int .i64 (0)]) (by simp [results, Tryd.results20, go_sem, *]) rfl ⟨by rw [hR, if_pos h0]; rfl, by go_grown <;> exact bel_dr (by go_grown <;> exact BS1) _⟩
  · have h1 : (M == 0) = false := by simpa using h0
    go_wp2
    exact bodyPost_ret (v := .agg #[.int .i64 (ur), .int .i64 (ug), .int .i64 (ub), .int .i64 (M)]) (by simp [results, Tryd.results20, go_sem, *]) rfl ⟨by rw [hR, if_neg h0]; rfl, by go_grown <;> exact bel_dr (by go_grown <;> exact BS1) _⟩

end Go.Proofs.YtmekcgbljpeglaaDoor
