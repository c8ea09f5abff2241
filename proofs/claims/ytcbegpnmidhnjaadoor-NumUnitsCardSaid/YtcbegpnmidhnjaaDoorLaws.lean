/-
  The runs of the laws about layer num: each returns true for any integers, where the table of sines lies in its variable (the condition 'Tab').
-/
import Derived.Test.YtcbegpnmidhnjaaDoorProg
import Derived.WalkKit
import Derived.WalkLawsBesides
import Derived.Lib.Walk
import Derived.Lib.BitFns
import Derived.Lib.ItoaNum
import Derived.Lib.Mul64
import Derived.Laws.Bits64b
import Derived.Laws.BitsAllLaws
import Derived.Laws.Externs
import Derived.Deep.QuietTactic
import Derived.BigQuiet
import Derived.RowKit3
import Derived.Deep.LoopGhost
import Derived.Great.Walk
import Derived.Great.BuildSlice
import Derived.Laws.Rows
import Derived.Laws.Tables
import Derived.Laws.CopyOwn
import Derived.Lib.Hide
import Derived.Test.YtcbegpnmidhnjaaDoorRoots
import Derived.Test.YtcbegpnmidhnjaaDoorTurns
import Derived.Test.YtcbegpnmidhnjaaDoorQuots
namespace Go.Proofs.YtcbegpnmidhnjaaDoor
open Go.RowKit
set_option maxHeartbeats 400000
set_option linter.unusedVariables false
theorem x_f : flo (-7) 2 = -4 := by decide +kernel
theorem x_d1 : dvi (-7) 2 = -3 := by decide +kernel
theorem x_d2 : dvi 7 (-2) = -3 := by decide +kernel
theorem x_d3 : dvi (-1) 2 = 0 := by decide +kernel
theorem x_d4 : dvi 1 2 = 1 := by decide +kernel
theorem x_m : mulu 32768 32768 = 16384 := by decide +kernel
theorem x_q : quou 5 3 = 65535 := by decide +kernel
theorem x_l : lrp 0 10 32768 = 5 := by decide +kernel
theorem x_x : fixd 98304 98304 = 147456 := by decide +kernel
theorem x_r1 : rati 1 3 = 21845 := by decide +kernel
theorem x_r2 : rati 1 (-2) = -32768 := by decide +kernel
theorem x_s : sqr 24 = 4 := by decide +kernel
theorem x_h : hyp 3 (-4) = 5 := by decide +kernel
theorem x_t1 : sinT 128 = 804 := by decide +kernel
theorem x_t2 : cosT 128 = 65526 := by decide +kernel
set_option maxRecDepth 100000 in
theorem t18 (w : World) (hT : Tab w) :
    Calls Tryd.prog 18 #[] w fun e w' => e = .returned (.bool true) ∧ ∃ k, w' = w.drewN k := by
  have c33 := t33 128 w hT
  rw [x_t1, x_t2] at c33
  have C33 := Lib.hid c33
  have y_f := x_f
  have y_d1 := x_d1
  have y_d2 := x_d2
  have y_d3 := x_d3
  have y_d4 := x_d4
  have y_m := x_m
  have y_q := x_q
  have y_l := x_l
  have y_x := x_x
  have y_r1 := x_r1
  have y_r2 := x_r2
  have y_s := x_s
  have y_h := x_h
  clear c33 hT
  go_enter Tryd.func18, Tryd.ntmps18
  go_wp2_with (first | (go_at_call 33; refine C33.out.mono ?_; rintro e w' ⟨rfl, n0, rfl⟩) | (go_at_call 12; refine (t12 _ _ _ (by omega) (by omega) (by omega) (by omega)).mono ?_; rintro e w' ⟨rfl, rfl⟩) | (go_at_call 14; refine (t14 _ _ _ (by omega) (by omega) (by omega) (by omega)).mono ?_; rintro e w' ⟨rfl, n1, rfl⟩) | (go_at_call 19; refine (t19 _ _ _).mono ?_; rintro e w' ⟨rfl, n1, rfl⟩) | (go_at_call 21; refine (t21 _ _ _).mono ?_; rintro e w' ⟨rfl, n1, rfl⟩) | (go_at_call 23; refine (t23 _ _ _ _).mono ?_; rintro e w' ⟨rfl, n1, rfl⟩) | (go_at_call 25; refine (t25 _ _ _ (by omega) (by omega) (by omega) (by omega)).mono ?_; rintro e w' ⟨rfl, n1, rfl⟩) | (go_at_call 27; refine (t27 _ _ _ (by omega) (by omega) (by omega) (by omega)).mono ?_; rintro e w' ⟨rfl, n1, rfl⟩) | (go_at_call 29; refine (t29 _ _ (by omega) (by omega)).mono ?_; rintro e w' ⟨rfl, rfl⟩) | (go_at_call 31; refine (t31 _ _ _ (by omega) (by omega) (by omega) (by omega)).mono ?_; rintro e w' ⟨rfl, rfl⟩))
  go_ret
  exact ⟨rfl, _, rfl⟩

set_option maxRecDepth 100000 in
theorem t3 (a b x : Int) (w : World) (ha : -9223372036854775808 ≤ a) (ha' : a ≤ 9223372036854775807) (hb : -9223372036854775808 ≤ b) (hb' : b ≤ 9223372036854775807) (hT : Tab w) :
    Calls Tryd.prog 3 #[.int .i64 a, .int .i64 b, .int .i64 x] w fun e w' => e = .returned (.bool true) ∧ ∃ k, w' = w.drewN k := by
  have HT := Lib.hid hT
  clear hT
  go_enter Tryd.func3, Tryd.ntmps3
  go_wp2_with (first | (go_at_call 12; refine (t12 _ _ _ (by assumption) (by assumption) (by assumption) (by assumption)).mono ?_; rintro e w' ⟨rfl, rfl⟩) | (go_at_call 13; refine (t13 _ _ _ (by assumption) (by assumption) (by assumption) (by assumption)).mono ?_; rintro e w' ⟨rfl, n1, rfl⟩) | (go_at_call 14; refine (t14 _ _ _ (by assumption) (by assumption) (by assumption) (by assumption)).mono ?_; rintro e w' ⟨rfl, n1, rfl⟩) | (go_at_call 15; refine (t15 _ _ _ (by assumption) (by assumption) (by assumption) (by assumption)).mono ?_; rintro e w' ⟨rfl, n1, rfl⟩) | (go_at_call 16; refine (t16 _ _ _ _).mono ?_; rintro e w' ⟨rfl, rfl⟩) | (go_at_call 17; refine (t17 _ _ _ _).mono ?_; rintro e w' ⟨rfl, rfl⟩) | (go_at_call 18; refine (t18 _ (HT.out.drewN _)).mono ?_; rintro e w' ⟨rfl, n1, rfl⟩))
  go_ret
  exact ⟨rfl, _, rfl⟩

theorem grown_of {P : Program} {F : FuncId} {args : Array Value} {w : World} {v : Value} (h : Calls P F args w fun e w' => e = .returned v ∧ ∃ k, w' = w.drewN k) :
    Calls P F args w fun e w' => e = .returned v ∧ Grown w w' :=
  h.mono fun _ _ ⟨he, k, hk⟩ => ⟨he, by rw [hk]; exact Grown.drewN (Grown.refl w) k⟩

set_option maxRecDepth 100000 in
theorem t4 (a b t : Int) (w : World) (hT : Tab w) :
    Calls Tryd.prog 4 #[.int .i64 a, .int .i64 b, .int .i64 t] w fun e w' => e = .returned (.bool true) ∧ ∃ k, w' = w.drewN k := by
  have HT := Lib.hid hT
  clear hT
  go_enter Tryd.func4, Tryd.ntmps4
  go_wp2_with (first | (go_at_call 19; refine (t19 _ _ _).mono ?_; rintro e w' ⟨rfl, n1, rfl⟩) | (go_at_call 20; refine (t20 _ _ _).mono ?_; rintro e w' ⟨rfl, n1, rfl⟩) | (go_at_call 21; refine (t21 _ _ _).mono ?_; rintro e w' ⟨rfl, n1, rfl⟩) | (go_at_call 22; refine (t22 _ _ _).mono ?_; rintro e w' ⟨rfl, n1, rfl⟩) | (go_at_call 23; refine (t23 _ _ _ _).mono ?_; rintro e w' ⟨rfl, n1, rfl⟩) | (go_at_call 24; refine (t24 _ _ _ _).mono ?_; rintro e w' ⟨rfl, n1, rfl⟩) | (go_at_call 18; refine (t18 _ (HT.out.drewN _)).mono ?_; rintro e w' ⟨rfl, n1, rfl⟩))
  go_ret
  exact ⟨rfl, _, rfl⟩
set_option maxRecDepth 100000 in
theorem t5 (a b : Int) (w : World) (ha : -9223372036854775808 ≤ a) (ha' : a ≤ 9223372036854775807) (hb : -9223372036854775808 ≤ b) (hb' : b ≤ 9223372036854775807) (hT : Tab w) :
    Calls Tryd.prog 5 #[.int .i64 a, .int .i64 b] w fun e w' => e = .returned (.bool true) ∧ ∃ k, w' = w.drewN k := by
  have HT := Lib.hid hT
  clear hT
  go_enter Tryd.func5, Tryd.ntmps5
  go_wp2_with (first | (go_at_call 25; refine (t25 _ _ _ (by assumption) (by assumption) (by assumption) (by assumption)).mono ?_; rintro e w' ⟨rfl, n1, rfl⟩) | (go_at_call 26; refine (t26 _ _ _ (by assumption) (by assumption) (by assumption) (by assumption)).mono ?_; rintro e w' ⟨rfl, rfl⟩) | (go_at_call 27; refine (t27 _ _ _ (by assumption) (by assumption) (by assumption) (by assumption)).mono ?_; rintro e w' ⟨rfl, n1, rfl⟩) | (go_at_call 28; refine (t28 _ _ _ (by assumption) (by assumption) (by assumption) (by assumption)).mono ?_; rintro e w' ⟨rfl, rfl⟩) | (go_at_call 18; refine (t18 _ (HT.out.drewN _)).mono ?_; rintro e w' ⟨rfl, n1, rfl⟩))
  go_ret
  exact ⟨rfl, _, rfl⟩
set_option maxRecDepth 100000 in
theorem t6 (n x y : Int) (w : World) (hn : -9223372036854775808 ≤ n) (hn' : n ≤ 9223372036854775807) (ha : -9223372036854775808 ≤ x) (ha' : x ≤ 9223372036854775807) (hb : -9223372036854775808 ≤ y) (hb' : y ≤ 9223372036854775807) (hT : Tab w) :
    Calls Tryd.prog 6 #[.int .i64 n, .int .i64 x, .int .i64 y] w fun e w' => e = .returned (.bool true) ∧ ∃ k, w' = w.drewN k := by
  have HT := Lib.hid hT
  clear hT
  go_enter Tryd.func6, Tryd.ntmps6
  go_wp2_with (first | (go_at_call 29; refine (t29 _ _ (by assumption) (by assumption)).mono ?_; rintro e w' ⟨rfl, rfl⟩) | (go_at_call 30; refine (t30 _ _ (by assumption) (by assumption)).mono ?_; rintro e w' ⟨rfl, rfl⟩) | (go_at_call 31; refine (t31 _ _ _ (by assumption) (by assumption) (by assumption) (by assumption)).mono ?_; rintro e w' ⟨rfl, rfl⟩) | (go_at_call 32; refine (t32 _ _ _ (by assumption) (by assumption) (by assumption) (by assumption)).mono ?_; rintro e w' ⟨rfl, rfl⟩) | (go_at_call 18; refine (t18 _ HT.out).mono ?_; rintro e w' ⟨rfl, n1, rfl⟩))
  go_ret
  exact ⟨rfl, _, rfl⟩

theorem Tab.gr {w w' : World} (hT : Tab w) (h : Gr w w') : Tab w' := fun i hi => by
  rw [← hT i hi]
  exact h.1.cell (p := ⟨2, i, none⟩) (block_lt_of_cell (hT i hi))
set_option maxRecDepth 100000 in
theorem t7 (a : Int) (w : World) (ha : -9223372036854775808 ≤ a) (ha' : a ≤ 9223372036854775807) (hT : Tab w) :
    Calls Tryd.prog 7 #[.int .i64 a] w fun e w' => e = .returned (.bool true) ∧ Grown w w' := by
  have HT := Lib.hid hT
  have c33 := Lib.hid (t33 a w hT)
  clear hT
  go_enter Tryd.func7, Tryd.ntmps7
  go_wp2_with (first | (go_at_call 33; refine c33.out.mono ?_; rintro e w' ⟨rfl, n1, rfl⟩) | (go_at_call 34; refine (t34 _ _ (by assumption) (by assumption)).mono ?_; rintro e w' ⟨rfl, hg⟩) | (go_at_call 18; refine (t18 _ ((HT.out.drewN _).gr (by assumption))).mono ?_; rintro e w' ⟨rfl, n2, rfl⟩))
  go_ret
  exact ⟨rfl, Grown.drewN (Grown.trans (Grown.drewN (Grown.refl _) _) hg.2) _⟩
/-- what the law about quotients asks of Div. -/
theorem div_near {a b : Int} (ha : -9223372036854775808 ≤ a) (ha' : a ≤ 9223372036854775807) (hb0 : b ≠ 0) (hs : ¬ (a = -9223372036854775808 ∧ b = -1)) :
    dvi a b = flo a b ∨ dvi a b ≠ flo a b ∧ dvi a b = flo a b + 1 := by
  rw [dvi_flo a b ha ha' hb0 hs]
  split
  · right; omega
  · left; rfl
set_option maxRecDepth 100000 in
theorem t8 (a b : Int) (w : World) (ha : -9223372036854775808 ≤ a) (ha' : a ≤ 9223372036854775807) (hb : -9223372036854775808 ≤ b) (hb' : b ≤ 9223372036854775807) (hT : Tab w) :
    Calls Tryd.prog 8 #[.int .i64 a, .int .i64 b] w fun e w' => e = .returned (.bool true) ∧ ∃ k, w' = w.drewN k := by
  have HT := Lib.hid hT
  by_cases h0 : b = 0
  · subst h0
    clear hT
    go_enter Tryd.func8, Tryd.ntmps8
    go_wp2_with (go_at_call 18; refine (t18 _ HT.out).mono ?_; rintro e w' ⟨rfl, n2, rfl⟩)
    go_ret
    exact ⟨rfl, _, rfl⟩
  by_cases hs : a = -9223372036854775808 ∧ b = -1
  · obtain ⟨rfl, rfl⟩ := hs
    clear hT
    go_enter Tryd.func8, Tryd.ntmps8
    go_wp2_with (go_at_call 18; refine (t18 _ HT.out).mono ?_; rintro e w' ⟨rfl, n2, rfl⟩)
    go_ret
    exact ⟨rfl, _, rfl⟩
  have hbb : (b == 0) = false := by simpa using h0
  have hm : (b == -1) = true ∧ (a == -9223372036854775808) = false ∨ (b == -1) = false := by
    simp at hs ⊢; omega
  have hr := flo_rest a b h0 hs
  have hrw := rest_wrap ha ha' hb hb' h0 hs
  have hq := flo_bd a b ha ha'
  have hd := div_near ha ha' h0 hs
  have hdb := dvi_bd a b
  have c12 := fun w => t12 a b w ha ha' hb hb'
  have c14 := fun w => t14 a b w ha ha' hb hb'
  generalize flo a b = q at *
  generalize dvi a b = d at *
  have C12 := Lib.hid c12
  have C14 := Lib.hid c14
  have HR := Lib.hid hrw
  clear c12 c14 hT
  obtain ⟨r, hre⟩ : ∃ r, r = a - b * q := ⟨_, rfl⟩
  rw [← hre] at hrw
  have r1 : 0 < b ∧ 0 ≤ r ∧ r < b ∨ b < 0 ∧ r ≤ 0 ∧ b < r := by omega
  clear hr hre HR hs
  have HQ : 0 < b ∨ b < 0 := by omega
  have hdd : d = q ∨ (d == q) = false ∧ (d == q + 1) = true ∧ q + 1 ≤ 9223372036854775807 := by
    rcases hd with h | ⟨h, h2⟩
    · left; exact h
    · right; refine ⟨by simpa using h, by simpa using h2, by omega⟩
  clear hd HQ h0
  rcases r1 with ⟨r1, r2, r3⟩ | ⟨r1, r2, r3⟩ <;> rcases hm with ⟨hm, hm2⟩ | hm <;> rcases hdd with rfl | ⟨d1, d2, d3⟩
  all_goals
    first
    | (exfalso; simp at hm; omega)
    | (go_enter Tryd.func8, Tryd.ntmps8
       go_wp2_with (first | (go_at_call 12; refine (C12.out _).mono ?_; rintro e w' ⟨rfl, rfl⟩) | (go_at_call 14; refine (C14.out _).mono ?_; rintro e w' ⟨rfl, n1, rfl⟩) | (go_at_call 18; refine (t18 _ (HT.out.drewN _)).mono ?_; rintro e w' ⟨rfl, n2, rfl⟩))
       go_ret
       exact ⟨rfl, _, rfl⟩)

theorem near_ineq {p D : Int} (hD : 0 < D) (hp : -9223372036854775808 ≤ p) (hp' : p ≤ 9223372036854775807) :
    2 * (D * dvi p D) ≤ 2 * p + D ∧ 2 * p - D < 2 * (D * dvi p D) := by
  have h := dvi_flo p D hp hp' (by omega) (by omega)
  have hr := (flo_rest p D (by omega) (by omega)).1 hD
  rw [h]
  generalize flo p D = q at *
  split
  · rename_i hc
    rw [Int.mul_add D q 1]
    generalize D * q = z at *
    omega
  · rename_i hc
    generalize D * q = z at *
    omega
theorem mulu_comm (a b : Int) : mulu a b = mulu b a := by unfold mulu; rw [Int.mul_comm]
theorem mulu_bd (a b : Int) : 0 ≤ mulu a b ∧ mulu a b ≤ un a ∧ mulu a b ≤ un b := by
  have h1 := un_mul a b
  have h := near_ineq (p := un a * un b) (D := 65535) (by omega) (by omega) (by omega)
  have a1 := un_lo a; have a2 := un_hi a; have b1 := un_lo b; have b2 := un_hi b
  have e1 : un a * un b ≤ un a * 65535 := Int.mul_le_mul_of_nonneg_left b2 a1
  have e2 : un a * un b ≤ 65535 * un b := Int.mul_le_mul_of_nonneg_right a2 b1
  unfold mulu
  generalize un a * un b = p at *
  generalize dvi p 65535 = v at *
  omega
theorem mulu_unit (a : Int) : mulu a 65535 = un a := by
  have a1 := un_lo a; have a2 := un_hi a
  unfold mulu
  have e : un 65535 = 65535 := by decide
  rw [e]
  have h := near_ineq (p := un a * 65535) (D := 65535) (by omega) (by omega) (by omega)
  omega
theorem un_id {m : Int} (h0 : 0 ≤ m) (h1 : m ≤ 65535) : un m = m := by unfold un; omega
theorem quou_bd (a b : Int) : 0 ≤ quou a b ∧ quou a b ≤ 65535 := by
  have a1 := un_lo a; have a2 := un_hi a; have b1 := un_lo b; have b2 := un_hi b
  unfold quou
  refine ⟨?_, by omega⟩
  by_cases h0 : un b = 0
  · rw [h0]; unfold dvi dv; simp; decide
  · have h := near_ineq (p := un a * 65535) (D := un b) (by omega) (by omega) (by omega)
    have : 0 ≤ dvi (un a * 65535) (un b) := by
      generalize dvi (un a * 65535) (un b) = v at *
      by_cases hv : v < 0
      · have : un b * v ≤ un b * (-1) := Int.mul_le_mul_of_nonneg_left (by omega) (by omega)
        omega
      · omega
    omega
/-- a quotient undoes a product, up to Unit / (2 unit(b)) + 1. -/
theorem quou_undo (a b : Int) (hy : 0 < un b) : quou (mulu a b) b - un a ≤ 65535 / (2 * un b) + 1 ∧ -(quou (mulu a b) b - un a) ≤ 65535 / (2 * un b) + 1 := by
  have a1 := un_lo a; have a2 := un_hi a; have b2 := un_hi b
  obtain ⟨m0, m1, m2⟩ := mulu_bd a b
  have hp := un_mul a b
  have h1 := near_ineq (p := un a * un b) (D := 65535) (by omega) (by omega) (by omega)
  have hm : mulu a b = dvi (un a * un b) 65535 := rfl
  rw [← hm] at h1
  have h2 := near_ineq (p := mulu a b * 65535) (D := un b) hy (by omega) (by omega)
  have hq : quou (mulu a b) b = min 65535 (dvi (mulu a b * 65535) (un b)) := by unfold quou; rw [un_id m0 (by omega)]
  rw [hq]
  generalize dvi (mulu a b * 65535) (un b) = v at *
  generalize mulu a b = m at *
  generalize un a = x at *
  generalize un b = y at *
  have k1 : 2 * (y * v) ≤ 2 * (x * y) + 65535 + y := by omega
  have k2 : 2 * (x * y) - 65535 - y < 2 * (y * v) := by omega
  have e : x * y = y * x := Int.mul_comm x y
  rw [e] at k1 k2
  have f1 : v - x ≤ 65535 / (2 * y) + 1 := by
    have : (v - x - 1) * (2 * y) ≤ 65535 := by
      have : (v - x - 1) * (2 * y) = 2 * (y * v) - 2 * (y * x) - 2 * y := by grind
      omega
    have := (Int.le_ediv_iff_mul_le (show 0 < 2 * y by omega)).2 this
    omega
  have f2 : x - v ≤ 65535 / (2 * y) + 1 := by
    have : (x - v - 1) * (2 * y) ≤ 65535 := by
      have : (x - v - 1) * (2 * y) = 2 * (y * x) - 2 * (y * v) - 2 * y := by grind
      omega
    have := (Int.le_ediv_iff_mul_le (show 0 < 2 * y by omega)).2 this
    omega
  have f3 : 0 ≤ 65535 / (2 * y) := Int.ediv_nonneg (by omega) (by omega)
  omega
theorem cl40_id {a : Int} (h1 : -1099511627776 ≤ a) (h2 : a ≤ 1099511627776) : cl40 a = a := by unfold cl40; omega
theorem lrp_between (a b t : Int) (h1 : -1099511627776 ≤ a) (h2 : a ≤ 1099511627776) (h3 : -1099511627776 ≤ b) (h4 : b ≤ 1099511627776) :
    lrp a b 0 = a ∧ lrp a b 65535 = b ∧ min a b ≤ lrp a b t ∧ lrp a b t ≤ max a b := by
  have u0 : un 0 = 0 := by decide
  have u1 : un 65535 = 65535 := by decide
  have t0 := un_lo t; have t1 := un_hi t
  unfold lrp
  rw [cl40_id h1 h2, cl40_id h3 h4, u0, u1]
  generalize un t = s at *
  have g1 : min a b * (65535 - s) ≤ a * (65535 - s) := Int.mul_le_mul_of_nonneg_right (by omega) (by omega)
  have g2 : min a b * s ≤ b * s := Int.mul_le_mul_of_nonneg_right (by omega) (by omega)
  have g3 : a * (65535 - s) ≤ max a b * (65535 - s) := Int.mul_le_mul_of_nonneg_right (by omega) (by omega)
  have g4 : b * s ≤ max a b * s := Int.mul_le_mul_of_nonneg_right (by omega) (by omega)
  have e1 : min a b * (65535 - s) + min a b * s = min a b * 65535 := by rw [← Int.mul_add]; congr 1; omega
  have e2 : max a b * (65535 - s) + max a b * s = max a b * 65535 := by rw [← Int.mul_add]; congr 1; omega
  have p1 := near_ineq (p := a * (65535 - 0) + b * 0) (D := 65535) (by omega) (by omega) (by omega)
  have p2 := near_ineq (p := a * (65535 - 65535) + b * 65535) (D := 65535) (by omega) (by omega) (by omega)
  have p3 := near_ineq (p := a * (65535 - s) + b * s) (D := 65535) (by omega) (by omega) (by omega)
  refine ⟨by omega, by omega, ?_, ?_⟩
  · omega
  · omega

set_option maxRecDepth 100000 in
theorem t9 (a b t : Int) (w : World) (ha : -9223372036854775808 ≤ a) (ha' : a ≤ 9223372036854775807) (hb : -9223372036854775808 ≤ b) (hb' : b ≤ 9223372036854775807) (hT : Tab w) :
    Calls Tryd.prog 9 #[.int .i64 a, .int .i64 b, .int .i64 t] w fun e w' => e = .returned (.bool true) ∧ ∃ k, w' = w.drewN k := by
  have HT := Lib.hid hT
  have m1 := mulu_bd a b
  have x1 := un_lo a
  have x2 := un_hi a
  have y1 := un_lo b
  have y2 := un_hi b
  have e2 := mulu_comm b a
  have e3 := mulu_unit a
  have q1 := quou_bd (mulu a b) b
  have q2 := quou_undo a b
  obtain ⟨m, hm⟩ : ∃ m, mulu a b = m := ⟨_, rfl⟩
  obtain ⟨x, hx⟩ : ∃ x, un a = x := ⟨_, rfl⟩
  obtain ⟨y, hy⟩ : ∃ y, un b = y := ⟨_, rfl⟩
  rw [hm] at e2 m1 q1 q2
  rw [hx] at e3 m1 q2 x1 x2
  rw [hy] at m1 q2 y1 y2
  obtain ⟨v, hv⟩ : ∃ v, quou m b = v := ⟨_, rfl⟩
  rw [hv] at q1 q2
  obtain ⟨m2, m3, m4⟩ := m1
  obtain ⟨q3, q4⟩ := q1
  have gm0 : decide (m < 0) = false := by simp only [decide_eq_false_iff_not]; omega
  have gm1 : decide (min x y < m) = false := by simp only [decide_eq_false_iff_not]; omega
  obtain ⟨K, hK⟩ : ∃ K, 65535 / (2 * y) = K := ⟨_, rfl⟩
  have gy : decide (0 < y) = false ∨ 0 < y ∧ decide (K + 1 < max (v - x) (-(v - x))) = false ∧ 0 ≤ K ∧ K ≤ 65535 := by
    by_cases h : 0 < y
    · right
      have h1 := q2 h
      have h2 : 0 ≤ 65535 / (2 * y) := Int.ediv_nonneg (by omega) (by omega)
      have h3 : 65535 / (2 * y) ≤ 65535 := Int.ediv_le_self _ (by omega)
      rw [hK] at h1 h2 h3
      refine ⟨h, ?_, h2, h3⟩; simp only [decide_eq_false_iff_not]; omega
    · left; simp only [decide_eq_false_iff_not]; exact h
  have hl := lrp_between a b t
  have gr : (decide (1099511627776 < max a b) = true) ∨ (decide (1099511627776 < max a b) = false ∧ decide (min a b < -1099511627776) = true) ∨
      (decide (1099511627776 < max a b) = false ∧ decide (min a b < -1099511627776) = false ∧ lrp a b 0 = a ∧ lrp a b 65535 = b ∧ min a b ≤ lrp a b t ∧ lrp a b t ≤ max a b) := by
    by_cases h1 : 1099511627776 < max a b
    · left; simpa using h1
    · right
      by_cases h2 : min a b < -1099511627776
      · left; exact ⟨by simp only [decide_eq_false_iff_not]; exact h1, by simpa using h2⟩
      · right; exact ⟨by simp only [decide_eq_false_iff_not]; exact h1, by simp only [decide_eq_false_iff_not]; exact h2, hl (by omega) (by omega) (by omega) (by omega)⟩
  clear hT q2 hl
  rcases gy with gy | ⟨gy, gv, gk, gk2⟩ <;> rcases gr with g1 | ⟨g1, g2⟩ | ⟨g1, g2, g3, g4, g5, g6⟩
  all_goals
    go_enter Tryd.func9, Tryd.ntmps9
    go_wp2_with (first | (go_at_call 35; refine (u35 _ _).mono ?_; rintro e w' ⟨rfl, rfl⟩) | (go_at_call 19; refine (t19 _ _ _).mono ?_; rintro e w' ⟨rfl, n1, rfl⟩) | (go_at_call 21; refine (t21 _ _ _).mono ?_; rintro e w' ⟨rfl, n1, rfl⟩) | (go_at_call 23; refine (t23 _ _ _ _).mono ?_; rintro e w' ⟨rfl, n1, rfl⟩) | (go_at_call 18; refine (t18 _ (HT.out.drewN _)).mono ?_; rintro e w' ⟨rfl, n2, rfl⟩))
    go_ret
    exact ⟨rfl, _, rfl⟩

theorem natAbs_neg_wrap (x : Int) (h : -9223372036854775808 ≤ x) (h' : x ≤ 9223372036854775807) : (wrap64 (-x)).natAbs = x.natAbs := by
  unfold wrap64; omega
theorem neg_wrap_bd (x : Int) (h : -9223372036854775808 ≤ x) (h' : x ≤ 9223372036854775807) : -9223372036854775808 ≤ wrap64 (-x) ∧ wrap64 (-x) ≤ 9223372036854775807 := by
  unfold wrap64; omega
theorem rt_ge {a S : Nat} (hS : S < 340282366920938463463374607431768211456) (h : a * a ≤ S) : a ≤ rt S := by
  have hr := rt_is S hS
  by_cases hh : a ≤ rt S
  · exact hh
  · have := Nat.mul_le_mul (show rt S + 1 ≤ a by omega) (show rt S + 1 ≤ a by omega)
    have := hr.2; omega
theorem rt_le {a S : Nat} (hS : S < 340282366920938463463374607431768211456) (h : S ≤ a * a) : rt S ≤ a := by
  have hr := rt_is S hS
  by_cases hh : rt S ≤ a
  · exact hh
  · have := Nat.mul_le_mul (show a + 1 ≤ rt S by omega) (show a + 1 ≤ rt S by omega)
    have := hr.1
    have e : (a + 1) * (a + 1) = a * a + 2 * a + 1 := by grind
    omega
theorem hyp_facts (x y : Int) (hx : -9223372036854775808 ≤ x) (hx' : x ≤ 9223372036854775807) (hy : -9223372036854775808 ≤ y) (hy' : y ≤ 9223372036854775807) :
    hyp y x = hyp x y ∧ hyp (wrap64 (-x)) y = hyp x y ∧ hyp x (wrap64 (-y)) = hyp x y ∧ 0 ≤ hyp x y ∧ hyp x y ≤ 9223372036854775807 ∧
      (hyp x y = 9223372036854775807 ∨ (x.natAbs : Int) ≤ hyp x y ∧ (y.natAbs : Int) ≤ hyp x y) ∧ hyp x y ≤ (x.natAbs : Int) + y.natAbs := by
  have b1 := sq_le x.natAbs (by omega)
  have b2 := sq_le y.natAbs (by omega)
  have eS : sq2 x y = x.natAbs * x.natAbs + y.natAbs * y.natAbs := rfl
  have hS : sq2 x y < 340282366920938463463374607431768211456 := by omega
  have g1 := rt_ge hS (a := x.natAbs) (by omega)
  have g2 := rt_ge hS (a := y.natAbs) (by omega)
  have g3 := rt_le hS (a := x.natAbs + y.natAbs) (by
    have e : (x.natAbs + y.natAbs) * (x.natAbs + y.natAbs) = x.natAbs * x.natAbs + y.natAbs * y.natAbs + 2 * (x.natAbs * y.natAbs) := by grind
    omega)
  refine ⟨?_, ?_, ?_, ?_, ?_, ?_, ?_⟩
  · unfold hyp sq2; rw [Nat.add_comm]
  · unfold hyp sq2; rw [natAbs_neg_wrap x hx hx']
  · unfold hyp sq2; rw [natAbs_neg_wrap y hy hy']
  all_goals (unfold hyp; omega)
theorem sqr_facts (N : Nat) (hN : N < 9223372036854775808) : ∃ r : Nat, sqr (N : Int) = (r : Int) ∧ r ≤ 3037000499 ∧ r * r ≤ N ∧ N < (r + 1) * (r + 1) := by
  have h := rt_is N (by omega)
  refine ⟨rt N, ?_, ?_, h.1, h.2⟩
  · unfold sqr; rw [if_neg (by omega)]; rfl
  · by_cases hh : rt N ≤ 3037000499
    · exact hh
    · have := Nat.mul_le_mul (show 3037000500 ≤ rt N by omega) (show 3037000500 ≤ rt N by omega)
      have := h.1; omega

set_option maxRecDepth 100000 in
set_option maxHeartbeats 1000000 in
theorem t10 (n x y : Int) (w : World) (hn : -9223372036854775808 ≤ n) (hn' : n ≤ 9223372036854775807) (hx : -9223372036854775808 ≤ x) (hx' : x ≤ 9223372036854775807) (hy : -9223372036854775808 ≤ y) (hy' : y ≤ 9223372036854775807) (hT : Tab w) :
    Calls Tryd.prog 10 #[.int .i64 n, .int .i64 x, .int .i64 y] w fun e w' => e = .returned (.bool true) ∧ ∃ k, w' = w.drewN k := by
  have HT := Lib.hid hT
  obtain ⟨k1, k2, k3, k4, k5, k6, k7⟩ := hyp_facts x y hx hx' hy hy'
  have nx := neg_wrap_bd x hx hx'
  have ny := neg_wrap_bd y hy hy'
  have ca := fun w => t31 x y w hx hx' hy hy'
  have cb := fun w => t31 y x w hy hy' hx hx'
  have cc := fun w => t31 (wrap64 (-x)) y w nx.1 nx.2 hy hy'
  have cd := fun w => t31 x (wrap64 (-y)) w hx hx' ny.1 ny.2
  rw [k1] at cb
  rw [k2] at cc
  rw [k3] at cd
  generalize hyp x y = h at *
  have CA := Lib.hid ca
  have CB := Lib.hid cb
  have CC := Lib.hid cc
  have CD := Lib.hid cd
  obtain ⟨s, hs⟩ : ∃ s : Nat, s = (x.natAbs + y.natAbs) % 18446744073709551616 := ⟨_, rfl⟩
  have es : IntKind.u64.wrap ((x.natAbs : Int) + (y.natAbs : Int)) = (s : Int) := by rw [IntKind.wrap_u64]; omega
  have xa : x.natAbs ≤ 9223372036854775808 := by omega
  have ya : y.natAbs ≤ 9223372036854775808 := by omega
  have es2 : decide (s < x.natAbs) = true ∨ decide (s < x.natAbs) = false ∧ decide (h ≤ (s : Int)) = true := by
    by_cases hh : s < x.natAbs
    · left; simpa using hh
    · right; refine ⟨by simp only [decide_eq_false_iff_not]; exact hh, by simp only [decide_eq_true_eq]; omega⟩
  have gh0 : decide (h < 0) = false := by simp only [decide_eq_false_iff_not]; omega
  have ghm : (h != 9223372036854775807) = false ∨ (h != 9223372036854775807) = true ∧ decide (h < max (x.natAbs : Int) (y.natAbs : Int)) = false := by
    rcases k6 with k6 | k6
    · left; simpa using k6
    · by_cases h1 : h = 9223372036854775807
      · left; simpa using h1
      · right; exact ⟨by simpa using h1, by simp only [decide_eq_false_iff_not]; omega⟩
  clear ca cb cc cd k1 k2 k3 k6 k7 nx ny hs xa ya hT
  by_cases h0 : 0 ≤ n
  · obtain ⟨N, rfl⟩ : ∃ N : Nat, n = (N : Int) := ⟨n.toNat, by omega⟩
    obtain ⟨r, r1, r2, r3, r4⟩ := sqr_facts N (by omega)
    have c29 := fun w => t29 (N : Int) w hn hn'
    rw [r1] at c29
    have c37 : ∀ w, Calls Tryd.prog 37 #[.int .i64 r] w fun e w' => e = .returned (.int .u64 r) ∧ w = w' := fun w => t37 r w (by omega) (by omega)
    have h1 : (r + 1) * (r + 1) ≤ 3037000500 * 3037000500 := Nat.mul_le_mul (by omega) (by omega)
    have c36a : ∀ w, Calls Tryd.prog 36 #[.int .u64 r, .int .u64 r] w fun e w' => e = .returned (.tuple #[.int .u64 0, .int .u64 (r * r : Nat)]) ∧ w = w' := fun w => by
      have := t36 r r (by omega) (by omega) w
      rw [show r * r / 18446744073709551616 = 0 by omega, show r * r % 18446744073709551616 = r * r by omega] at this
      exact this
    have c36b : ∀ w, Calls Tryd.prog 36 #[.int .u64 ((r : Int) + 1), .int .u64 ((r : Int) + 1)] w fun e w' => e = .returned (.tuple #[.int .u64 0, .int .u64 ((r + 1) * (r + 1) : Nat)]) ∧ w = w' := fun w => by
      have := t36 (r + 1) (r + 1) (by omega) (by omega) w
      rw [show (r + 1) * (r + 1) / 18446744073709551616 = 0 by omega, show (r + 1) * (r + 1) % 18446744073709551616 = (r + 1) * (r + 1) by omega] at this
      exact this
    have g1 : decide (N < r * r) = false := by simp only [decide_eq_false_iff_not]; omega
    have g2 : decide ((r + 1) * (r + 1) ≤ N) = false := by simp only [decide_eq_false_iff_not]; omega
    generalize (r + 1) * (r + 1) = l2 at *
    generalize r * r = l1 at *
    have rs : (r : Int) ≤ 3037000499 := by omega
    have C29 := Lib.hid c29
    have C37 := Lib.hid c37
    have A36 := Lib.hid c36a
    have B36 := Lib.hid c36b
    clear r1 r2 r3 r4 c29 c37 c36a c36b h1 hn
    rcases es2 with e1 | ⟨e1, e2⟩ <;> rcases ghm with m1 | ⟨m1, m2⟩
    all_goals
      go_enter Tryd.func10, Tryd.ntmps10
      go_wp2_with (first | (go_at_call 29; refine (C29.out _).mono ?_; rintro e w' ⟨rfl, rfl⟩) | (go_at_call 37; (with_reducible refine (C37.out _).mono ?_); rintro e w' ⟨rfl, rfl⟩) | (go_at_call 37; refine (t37 _ _ (by assumption) (by assumption)).mono ?_; rintro e w' ⟨rfl, rfl⟩) | (go_at_call 36; (with_reducible refine (A36.out _).mono ?_); rintro e w' ⟨rfl, rfl⟩) | (go_at_call 36; (with_reducible refine (B36.out _).mono ?_); rintro e w' ⟨rfl, rfl⟩) | (go_at_call 31; (with_reducible refine (CA.out _).mono ?_); rintro e w' ⟨rfl, rfl⟩) | (go_at_call 31; (with_reducible refine (CB.out _).mono ?_); rintro e w' ⟨rfl, rfl⟩) | (go_at_call 31; (with_reducible refine (CC.out _).mono ?_); rintro e w' ⟨rfl, rfl⟩) | (go_at_call 31; (with_reducible refine (CD.out _).mono ?_); rintro e w' ⟨rfl, rfl⟩) | (go_at_call 18; refine (t18 _ HT.out).mono ?_; rintro e w' ⟨rfl, n2, rfl⟩))
      go_ret
      exact ⟨rfl, _, rfl⟩
  · have gn : decide (0 ≤ n) = false := by simp only [decide_eq_false_iff_not]; exact h0
    clear h0
    rcases es2 with e1 | ⟨e1, e2⟩ <;> rcases ghm with m1 | ⟨m1, m2⟩
    all_goals
      go_enter Tryd.func10, Tryd.ntmps10
      go_wp2_with (first | (go_at_call 29; refine (t29 _ _ (by assumption) (by assumption)).mono ?_; rintro e w' ⟨rfl, rfl⟩) | (go_at_call 37; refine (t37 _ _ (by assumption) (by assumption)).mono ?_; rintro e w' ⟨rfl, rfl⟩) | (go_at_call 31; (with_reducible refine (CA.out _).mono ?_); rintro e w' ⟨rfl, rfl⟩) | (go_at_call 31; (with_reducible refine (CB.out _).mono ?_); rintro e w' ⟨rfl, rfl⟩) | (go_at_call 31; (with_reducible refine (CC.out _).mono ?_); rintro e w' ⟨rfl, rfl⟩) | (go_at_call 31; (with_reducible refine (CD.out _).mono ?_); rintro e w' ⟨rfl, rfl⟩) | (go_at_call 18; refine (t18 _ HT.out).mono ?_; rintro e w' ⟨rfl, n2, rfl⟩))
      go_ret
      exact ⟨rfl, _, rfl⟩
end Go.Proofs.YtcbegpnmidhnjaaDoor
