import Derived.Test.YtmafmpgpaioniaaProg
import Derived.WalkKit
import Derived.WalkLawsBesides
import Derived.Outline
import Derived.Lib.Walk
import Derived.Deep.QuietTactic
import Derived.BigQuiet
import Derived.RowKit3
import Derived.Deep.LoopGhost
import Derived.Laws.Rows
import Derived.Laws.Tables
import Derived.Laws.CopyOwn
import Derived.Lib.Hide
import Derived.Handy
import Derived.Deep.Onto
import Derived.IntWalk
import Derived.Deep.WholeRow
import Derived.Laws.ResultCell
import Derived.Test.YtmafmpgpaioniaaE1
namespace Go.Proofs.Ytmafmpgpaioniaa
open Go.RowKit
set_option maxHeartbeats 400000
set_option linter.unusedVariables false

def elB (n d : Int) : Bool := inb (rati (n * 65536) d)
def elV (n d : Int) : Int := if inb (rati (n * 65536) d) then rati (n * 65536) d else 0
theorem el_early {n d : Int} (hd : d ≠ 0) {k q r : Nat} (hk : k ≤ 32) (h : dvI n.natAbs d.natAbs k q r) (hq : 2097152 < q) : elV n d = 0 ∧ elB n d = false := by
  have := dvI_early hd hk h hq
  unfold elV elB
  rw [this]
  exact ⟨rfl, rfl⟩
theorem el_out {n d : Int} (hd : d ≠ 0) {R : Nat} (hR : rnd (n.natAbs * 4294967296) d.natAbs (ngb n d) = R) (h : 1048576 < R) : elV n d = 0 ∧ elB n d = false := by
  have := elem_out hd hR h
  unfold elV elB
  rw [this]
  exact ⟨rfl, rfl⟩
theorem el_in {n d : Int} (hd : d ≠ 0) {R : Nat} (hR : rnd (n.natAbs * 4294967296) d.natAbs (ngb n d) = R) (h : R ≤ 1048576) : elV n d = (if ngb n d then -(R : Int) else (R : Int)) ∧ elB n d = true := by
  obtain ⟨h1, h2⟩ := elem_in hd hR h
  unfold elV elB
  rw [h1, if_pos rfl, h2]
  exact ⟨rfl, rfl⟩

set_option maxHeartbeats 8000000 in
set_option maxRecDepth 100000 in
theorem el00 (x y : Nat) (hx : x ≤ 4398046511104)  (hy : 0 < y) (hyb : y < 9223372036854775808) (w : World) :
    Calls Try.prog 34 #[.int .i64 ((x : Int)), .int .i64 ((y : Int))] w fun e w' => e = .returned (.tuple #[.int .i64 (elV ((x : Int)) ((y : Int))), .bool (elB ((x : Int)) ((y : Int)))]) ∧ w = w' := by
  have hd0 : ((y : Int)) ≠ 0 := by omega
  have hng : ngb ((x : Int)) ((y : Int)) = false := by unfold ngb; rw [show decide ((x : Int) < 0) = false by simp]; rw [show decide ((y : Int) < 0) = false by simp]; rfl
  have nx : ((x : Int)).natAbs = x := by omega
  have ny : ((y : Int)).natAbs = y := by omega
  have HE := Lib.hid (fun k q r (hk : k ≤ 32) (h : dvI x y k q r) (hq : 2097152 < q) => el_early (n := (x : Int)) (d := (y : Int)) hd0 hk (by rw [nx, ny]; exact h) hq)
  have HZ := Lib.hid (fun q r (h : dvI x y 32 q r) => @dvI_end ((x : Int)) ((y : Int)) q r (by rw [nx, ny]; exact h))
  rw [hng, nx, ny] at HZ
  have HI := Lib.hid (fun R (hR : rnd (x * 4294967296) y false = R) => @el_in ((x : Int)) ((y : Int)) hd0 R (by rw [nx, ny, hng]; exact hR))
  have HO := Lib.hid (fun R (hR : rnd (x * 4294967296) y false = R) => @el_out ((x : Int)) ((y : Int)) hd0 R (by rw [nx, ny, hng]; exact hR))
  rw [hng] at HI
  obtain ⟨V, hV⟩ : ∃ V, elV ((x : Int)) ((y : Int)) = V := ⟨_, rfl⟩
  obtain ⟨B, hB⟩ : ∃ B, elB ((x : Int)) ((y : Int)) = B := ⟨_, rfl⟩
  rw [hV, hB]
  have HV := Lib.hid hV
  have HB := Lib.hid hB
  clear hV hB hng nx ny hd0
  obtain ⟨q0, hq0⟩ : ∃ q, q = x / y := ⟨_, rfl⟩
  obtain ⟨r0, hr0⟩ : ∃ r, r = x % y := ⟨_, rfl⟩
  have qb : q0 ≤ 4398046511104 := by rw [hq0]; exact Nat.le_trans (Nat.div_le_self _ _) hx
  have rb : r0 < y := by rw [hr0]; exact Nat.mod_lt _ hy
  have a1 : (x : Int) / (y : Int) = (q0 : Int) := by rw [hq0]; rfl
  have a2 : (x : Int).tdiv (y : Int) = (q0 : Int) := by rw [hq0]; rfl
  have a3 : (x : Int) % (y : Int) = (r0 : Int) := by rw [hr0]; rfl
  have a4 : (x : Int).tmod (y : Int) = (r0 : Int) := by rw [hr0]; rfl
  have a5 : IntKind.u64.wrap (q0 : Int) = (q0 : Int) := IntWalk.u64_in _ (by omega)
  have a6 : IntKind.u64.wrap (r0 : Int) = (r0 : Int) := IntWalk.u64_in _ (by omega)
  have a7 : IntKind.u64.wrap (x : Int) = (x : Int) := IntWalk.u64_in _ (by omega)
  have a8 : IntKind.u64.wrap (y : Int) = (y : Int) := IntWalk.u64_in _ (by omega)
  have a9 : IntKind.i64.wrap (x : Int) = (x : Int) := IntWalk.i64_in _ (by omega)
  have a10 : IntKind.i64.wrap (y : Int) = (y : Int) := IntWalk.i64_in _ (by omega)
  have y1 : ¬ (y = 0) := by omega
  have y2 : ((y : Int) == 0) = false := by simp; omega
  have y3 : (0 : Int) < (y : Int) := by omega
  have n1 : ¬ ((x : Int) < 0) := by omega
  have n2 : ¬ ((y : Int) < 0) := by omega
  have HS := Lib.hid (show dvI x y 0 q0 r0 by rw [hq0, hr0]; exact dvI_start hy)
  clear hq0 hr0
  go_enter Try.func34, Try.ntmps34
  go_wp2
  clear a1 a2 a3 a4 a5 a6 a7 a8 a9 a10 y1 y2 n1 n2
  go_loop [9, 10, 11] (fun qq rr ii => ∃ q r k : Nat, qq = .int .u64 (q : Int) ∧ rr = .int .u64 (r : Int) ∧ ii = .int .i64 (k : Int) ∧ k ≤ 32 ∧ q ≤ 4398046511104 ∧ r < y ∧ Hid (dvI x y k q r)) (fun _ _ ii => (32 - (intOf ii).toNat))
  case atStart => exact ⟨q0, r0, 0, rfl, rfl, rfl, by omega, qb, rb, HS⟩
  case round =>
    obtain ⟨q, r, k, rfl, rfl, rfl, hk, hqb, hrb, hI⟩ := hrel
    clear HS qb rb
    by_cases hlt : k < 32
    · have kk : IntKind.i64.wrap ((k : Int) + 1) = (k : Int) + 1 := IntWalk.i64_in _ (by omega)
      by_cases hq : 2097152 < q
      · obtain ⟨v1, v2⟩ := HE.out k q r hk hI.out hq
        rw [HV.out] at v1
        rw [HB.out] at v2
        subst v1 v2
        have hq' : 2097152 < (q : Int) := by omega
        clear HO HI HE HZ hI HV HB
        go_wp2
        exact bodyPost_ret (v := .tuple #[.int .i64 0, .bool false]) (by simp [results, Try.results34, go_sem, *]) rfl ⟨rfl, rfl⟩
      · have hq' : ¬ (2097152 < (q : Int)) := by omega
        obtain ⟨s1, s2⟩ := dvI_step hI.out
        have S1 := Lib.hid s1
        have S2 := Lib.hid s2
        clear s1 s2 hI HE HZ HI HO
        have w1 : IntKind.u64.wrap ((q : Int) * 2) = (q : Int) * 2 := IntWalk.u64_in _ (by omega)
        have w2 : IntKind.u64.wrap ((r : Int) * 2) = (r : Int) * 2 := IntWalk.u64_in _ (by omega)
        by_cases hr : y ≤ 2 * r
        · have hr' : (y : Int) ≤ (r : Int) * 2 := by omega
          have w3 : IntKind.u64.wrap ((r : Int) * 2 - (y : Int)) = ((2 * r - y : Nat) : Int) := by rw [IntWalk.u64_in _ (by omega)]; omega
          have w4 : IntKind.u64.wrap ((q : Int) * 2 + 1) = ((2 * q + 1 : Nat) : Int) := by rw [IntWalk.u64_in _ (by omega)]; omega
          have hT := Lib.hid (S1.out hr)
          clear S1 S2
          generalize hq2 : 2 * q + 1 = q2 at *
          generalize hr2 : 2 * r - y = r2 at *
          have B1 := Lib.hid (show q2 ≤ 4398046511104 ∧ r2 < y by omega)
          clear hq2 hr2 hr
          go_wp2
          go_round
          case rel => exact ⟨q2, r2, k + 1, rfl, rfl, by simp, by omega, B1.out.1, B1.out.2, hT⟩
          case measure => simp [intOf]; omega
        · have hr' : ¬ ((y : Int) ≤ (r : Int) * 2) := by omega
          have hT := Lib.hid (S2.out (by omega))
          clear S1 S2
          have B1 := Lib.hid (show 2 * q ≤ 4398046511104 ∧ 2 * r < y by omega)
          clear hr
          go_wp2
          go_round
          case rel => exact ⟨2 * q, 2 * r, k + 1, by simp; omega, by simp; omega, by simp, by omega, B1.out.1, B1.out.2, hT⟩
          case measure => simp [intOf]; omega
    · obtain rfl : k = 32 := by omega
      rw [show ((32 : Nat) : Int) = 32 from rfl]
      clear hlt hk
      by_cases hq : 2097152 < q
      · obtain ⟨v1, v2⟩ := HE.out 32 q r (by omega) hI.out hq
        rw [HV.out] at v1
        rw [HB.out] at v2
        subst v1 v2
        have hq' : 2097152 < (q : Int) := by omega
        clear HO HI HE HZ hI HV HB
        go_wp2
        exact bodyPost_ret (v := .tuple #[.int .i64 0, .bool false]) (by simp [results, Try.results34, go_sem, *]) rfl ⟨rfl, rfl⟩
      · clear HE
        obtain ⟨hqr1, hqr2⟩ := hI.out
        have w1 : IntKind.u64.wrap (2 * (r : Int)) = 2 * (r : Int) := IntWalk.u64_in _ (by omega)
        have hz := HZ.out q r hI.out
        have hq1 : ¬ (2097152 < (q : Int)) := by omega
        by_cases hup : y ≤ 2 * r
        · rw [if_pos (by simp [hup])] at hz
          have hu : (y : Int) ≤ 2 * (r : Int) := by omega
          skip
          have w4 : IntKind.u64.wrap ((q : Int) + 1) = (q : Int) + 1 := IntWalk.u64_in _ (by omega)
          by_cases hR : 1048576 < q + 1
          · obtain ⟨v1, v2⟩ := HO.out _ hz hR
            rw [HV.out] at v1
            rw [HB.out] at v2
            subst v1 v2
            have hR' : 1048576 < ((q : Int) + 1) := by omega
            clear HO HI HZ hz hI hqr1 HV HB
            clear hup
            go_wp2
            exact bodyPost_ret (v := .tuple #[.int .i64 0, .bool false]) (by simp [results, Try.results34, go_sem, *]) rfl ⟨rfl, rfl⟩
          · obtain ⟨v1, v2⟩ := HI.out _ hz (by omega)
            rw [HV.out] at v1
            rw [HB.out] at v2
            rw [if_neg (by decide)] at v1
            have hR' : ¬ (1048576 < ((q : Int) + 1)) := by omega
            have w5 : IntKind.i64.wrap ((q : Int) + 1) = (q : Int) + 1 := IntWalk.i64_in _ (by omega)
            have w6 : IntKind.i64.wrap (-((q : Int) + 1)) = -((q : Int) + 1) := IntWalk.i64_in _ (by omega)
            have v3 : V = ((q : Int) + 1) := by rw [v1]; omega
            subst v2
            clear HO HI HZ hz hI hqr1 HV HB v1
            clear hup
            go_wp2
            refine bodyPost_ret (v := .tuple #[.int .i64 (((q : Int) + 1)), .bool true]) (by simp [results, Try.results34, go_sem, *]) rfl ⟨by first | rfl | rw [v3], rfl⟩
        · rw [if_neg (by simp [hup])] at hz
          have hu : ¬ ((y : Int) ≤ 2 * (r : Int)) := by omega
          by_cases hR : 1048576 < q
          · obtain ⟨v1, v2⟩ := HO.out _ hz hR
            rw [HV.out] at v1
            rw [HB.out] at v2
            subst v1 v2
            have hR' : 1048576 < ((q : Int)) := by omega
            clear HO HI HZ hz hI hqr1 HV HB
            clear hup
            go_wp2
            exact bodyPost_ret (v := .tuple #[.int .i64 0, .bool false]) (by simp [results, Try.results34, go_sem, *]) rfl ⟨rfl, rfl⟩
          · obtain ⟨v1, v2⟩ := HI.out _ hz (by omega)
            rw [HV.out] at v1
            rw [HB.out] at v2
            rw [if_neg (by decide)] at v1
            have hR' : ¬ (1048576 < ((q : Int))) := by omega
            have w5 : IntKind.i64.wrap ((q : Int)) = (q : Int) := IntWalk.i64_in _ (by omega)
            have w6 : IntKind.i64.wrap (-((q : Int))) = -((q : Int)) := IntWalk.i64_in _ (by omega)
            have v3 : V = ((q : Int)) := by rw [v1]; omega
            subst v2
            clear HO HI HZ hz hI hqr1 HV HB v1
            clear hup
            go_wp2
            refine bodyPost_ret (v := .tuple #[.int .i64 (((q : Int))), .bool true]) (by simp [results, Try.results34, go_sem, *]) rfl ⟨by first | rfl | rw [v3], rfl⟩

set_option maxHeartbeats 8000000 in
set_option maxRecDepth 100000 in
theorem el01 (x y : Nat) (hx : x ≤ 4398046511104)  (hy : 0 < y) (hyb : y < 9223372036854775808) (w : World) :
    Calls Try.prog 34 #[.int .i64 ((x : Int)), .int .i64 (-(y : Int))] w fun e w' => e = .returned (.tuple #[.int .i64 (elV ((x : Int)) (-(y : Int))), .bool (elB ((x : Int)) (-(y : Int)))]) ∧ w = w' := by
  have hd0 : (-(y : Int)) ≠ 0 := by omega
  have hng : ngb ((x : Int)) (-(y : Int)) = true := by unfold ngb; rw [show decide ((x : Int) < 0) = false by simp]; rw [show decide (-(y : Int) < 0) = true by simp; omega]; rfl
  have nx : ((x : Int)).natAbs = x := by omega
  have ny : (-(y : Int)).natAbs = y := by omega
  have HE := Lib.hid (fun k q r (hk : k ≤ 32) (h : dvI x y k q r) (hq : 2097152 < q) => el_early (n := (x : Int)) (d := -(y : Int)) hd0 hk (by rw [nx, ny]; exact h) hq)
  have HZ := Lib.hid (fun q r (h : dvI x y 32 q r) => @dvI_end ((x : Int)) (-(y : Int)) q r (by rw [nx, ny]; exact h))
  rw [hng, nx, ny] at HZ
  have HI := Lib.hid (fun R (hR : rnd (x * 4294967296) y true = R) => @el_in ((x : Int)) (-(y : Int)) hd0 R (by rw [nx, ny, hng]; exact hR))
  have HO := Lib.hid (fun R (hR : rnd (x * 4294967296) y true = R) => @el_out ((x : Int)) (-(y : Int)) hd0 R (by rw [nx, ny, hng]; exact hR))
  rw [hng] at HI
  obtain ⟨V, hV⟩ : ∃ V, elV ((x : Int)) (-(y : Int)) = V := ⟨_, rfl⟩
  obtain ⟨B, hB⟩ : ∃ B, elB ((x : Int)) (-(y : Int)) = B := ⟨_, rfl⟩
  rw [hV, hB]
  have HV := Lib.hid hV
  have HB := Lib.hid hB
  clear hV hB hng nx ny hd0
  obtain ⟨q0, hq0⟩ : ∃ q, q = x / y := ⟨_, rfl⟩
  obtain ⟨r0, hr0⟩ : ∃ r, r = x % y := ⟨_, rfl⟩
  have qb : q0 ≤ 4398046511104 := by rw [hq0]; exact Nat.le_trans (Nat.div_le_self _ _) hx
  have rb : r0 < y := by rw [hr0]; exact Nat.mod_lt _ hy
  have a1 : (x : Int) / (y : Int) = (q0 : Int) := by rw [hq0]; rfl
  have a2 : (x : Int).tdiv (y : Int) = (q0 : Int) := by rw [hq0]; rfl
  have a3 : (x : Int) % (y : Int) = (r0 : Int) := by rw [hr0]; rfl
  have a4 : (x : Int).tmod (y : Int) = (r0 : Int) := by rw [hr0]; rfl
  have a5 : IntKind.u64.wrap (q0 : Int) = (q0 : Int) := IntWalk.u64_in _ (by omega)
  have a6 : IntKind.u64.wrap (r0 : Int) = (r0 : Int) := IntWalk.u64_in _ (by omega)
  have a7 : IntKind.u64.wrap (x : Int) = (x : Int) := IntWalk.u64_in _ (by omega)
  have a8 : IntKind.u64.wrap (y : Int) = (y : Int) := IntWalk.u64_in _ (by omega)
  have a9 : IntKind.i64.wrap (x : Int) = (x : Int) := IntWalk.i64_in _ (by omega)
  have a10 : IntKind.i64.wrap (y : Int) = (y : Int) := IntWalk.i64_in _ (by omega)
  have y1 : ¬ (y = 0) := by omega
  have y2 : ((y : Int) == 0) = false := by simp; omega
  have y3 : (0 : Int) < (y : Int) := by omega
  have n1 : ¬ ((x : Int) < 0) := by omega
  have n2 : -(y : Int) < 0 := by omega
  have HS := Lib.hid (show dvI x y 0 q0 r0 by rw [hq0, hr0]; exact dvI_start hy)
  clear hq0 hr0
  go_enter Try.func34, Try.ntmps34
  go_wp2
  clear a1 a2 a3 a4 a5 a6 a7 a8 a9 a10 y1 y2 n1 n2
  go_loop [9, 10, 11] (fun qq rr ii => ∃ q r k : Nat, qq = .int .u64 (q : Int) ∧ rr = .int .u64 (r : Int) ∧ ii = .int .i64 (k : Int) ∧ k ≤ 32 ∧ q ≤ 4398046511104 ∧ r < y ∧ Hid (dvI x y k q r)) (fun _ _ ii => (32 - (intOf ii).toNat))
  case atStart => exact ⟨q0, r0, 0, rfl, rfl, rfl, by omega, qb, rb, HS⟩
  case round =>
    obtain ⟨q, r, k, rfl, rfl, rfl, hk, hqb, hrb, hI⟩ := hrel
    clear HS qb rb
    by_cases hlt : k < 32
    · have kk : IntKind.i64.wrap ((k : Int) + 1) = (k : Int) + 1 := IntWalk.i64_in _ (by omega)
      by_cases hq : 2097152 < q
      · obtain ⟨v1, v2⟩ := HE.out k q r hk hI.out hq
        rw [HV.out] at v1
        rw [HB.out] at v2
        subst v1 v2
        have hq' : 2097152 < (q : Int) := by omega
        clear HO HI HE HZ hI HV HB
        go_wp2
        exact bodyPost_ret (v := .tuple #[.int .i64 0, .bool false]) (by simp [results, Try.results34, go_sem, *]) rfl ⟨rfl, rfl⟩
      · have hq' : ¬ (2097152 < (q : Int)) := by omega
        obtain ⟨s1, s2⟩ := dvI_step hI.out
        have S1 := Lib.hid s1
        have S2 := Lib.hid s2
        clear s1 s2 hI HE HZ HI HO
        have w1 : IntKind.u64.wrap ((q : Int) * 2) = (q : Int) * 2 := IntWalk.u64_in _ (by omega)
        have w2 : IntKind.u64.wrap ((r : Int) * 2) = (r : Int) * 2 := IntWalk.u64_in _ (by omega)
        by_cases hr : y ≤ 2 * r
        · have hr' : (y : Int) ≤ (r : Int) * 2 := by omega
          have w3 : IntKind.u64.wrap ((r : Int) * 2 - (y : Int)) = ((2 * r - y : Nat) : Int) := by rw [IntWalk.u64_in _ (by omega)]; omega
          have w4 : IntKind.u64.wrap ((q : Int) * 2 + 1) = ((2 * q + 1 : Nat) : Int) := by rw [IntWalk.u64_in _ (by omega)]; omega
          have hT := Lib.hid (S1.out hr)
          clear S1 S2
          generalize hq2 : 2 * q + 1 = q2 at *
          generalize hr2 : 2 * r - y = r2 at *
          have B1 := Lib.hid (show q2 ≤ 4398046511104 ∧ r2 < y by omega)
          clear hq2 hr2 hr
          go_wp2
          go_round
          case rel => exact ⟨q2, r2, k + 1, rfl, rfl, by simp, by omega, B1.out.1, B1.out.2, hT⟩
          case measure => simp [intOf]; omega
        · have hr' : ¬ ((y : Int) ≤ (r : Int) * 2) := by omega
          have hT := Lib.hid (S2.out (by omega))
          clear S1 S2
          have B1 := Lib.hid (show 2 * q ≤ 4398046511104 ∧ 2 * r < y by omega)
          clear hr
          go_wp2
          go_round
          case rel => exact ⟨2 * q, 2 * r, k + 1, by simp; omega, by simp; omega, by simp, by omega, B1.out.1, B1.out.2, hT⟩
          case measure => simp [intOf]; omega
    · obtain rfl : k = 32 := by omega
      rw [show ((32 : Nat) : Int) = 32 from rfl]
      clear hlt hk
      by_cases hq : 2097152 < q
      · obtain ⟨v1, v2⟩ := HE.out 32 q r (by omega) hI.out hq
        rw [HV.out] at v1
        rw [HB.out] at v2
        subst v1 v2
        have hq' : 2097152 < (q : Int) := by omega
        clear HO HI HE HZ hI HV HB
        go_wp2
        exact bodyPost_ret (v := .tuple #[.int .i64 0, .bool false]) (by simp [results, Try.results34, go_sem, *]) rfl ⟨rfl, rfl⟩
      · clear HE
        obtain ⟨hqr1, hqr2⟩ := hI.out
        have w1 : IntKind.u64.wrap (2 * (r : Int)) = 2 * (r : Int) := IntWalk.u64_in _ (by omega)
        have hz := HZ.out q r hI.out
        have hq1 : ¬ (2097152 < (q : Int)) := by omega
        by_cases hup : y < 2 * r
        · rw [if_pos (by simp [hup])] at hz
          have hu : (y : Int) < 2 * (r : Int) := by omega
          have hu2 : (y : Int) ≤ 2 * (r : Int) := by omega
          have w4 : IntKind.u64.wrap ((q : Int) + 1) = (q : Int) + 1 := IntWalk.u64_in _ (by omega)
          by_cases hR : 1048576 < q + 1
          · obtain ⟨v1, v2⟩ := HO.out _ hz hR
            rw [HV.out] at v1
            rw [HB.out] at v2
            subst v1 v2
            have hR' : 1048576 < ((q : Int) + 1) := by omega
            clear HO HI HZ hz hI hqr1 HV HB
            clear hup
            go_wp2
            exact bodyPost_ret (v := .tuple #[.int .i64 0, .bool false]) (by simp [results, Try.results34, go_sem, *]) rfl ⟨rfl, rfl⟩
          · obtain ⟨v1, v2⟩ := HI.out _ hz (by omega)
            rw [HV.out] at v1
            rw [HB.out] at v2
            rw [if_pos trivial] at v1
            have hR' : ¬ (1048576 < ((q : Int) + 1)) := by omega
            have w5 : IntKind.i64.wrap ((q : Int) + 1) = (q : Int) + 1 := IntWalk.i64_in _ (by omega)
            have w6 : IntKind.i64.wrap (-((q : Int) + 1)) = -((q : Int) + 1) := IntWalk.i64_in _ (by omega)
            have v3 : V = -((q : Int) + 1) := by rw [v1]; omega
            subst v2
            clear HO HI HZ hz hI hqr1 HV HB v1
            clear hup
            go_wp2
            refine bodyPost_ret (v := .tuple #[.int .i64 (-((q : Int) + 1)), .bool true]) (by simp [results, Try.results34, go_sem, *]) rfl ⟨by first | rfl | rw [v3], rfl⟩
        · rw [if_neg (by simp [hup])] at hz
          have hu : ¬ ((y : Int) < 2 * (r : Int)) := by omega
          by_cases hR : 1048576 < q
          · obtain ⟨v1, v2⟩ := HO.out _ hz hR
            rw [HV.out] at v1
            rw [HB.out] at v2
            subst v1 v2
            have hR' : 1048576 < ((q : Int)) := by omega
            clear HO HI HZ hz hI hqr1 HV HB
            clear hup
            go_wp2
            exact bodyPost_ret (v := .tuple #[.int .i64 0, .bool false]) (by simp [results, Try.results34, go_sem, *]) rfl ⟨rfl, rfl⟩
          · obtain ⟨v1, v2⟩ := HI.out _ hz (by omega)
            rw [HV.out] at v1
            rw [HB.out] at v2
            rw [if_pos trivial] at v1
            have hR' : ¬ (1048576 < ((q : Int))) := by omega
            have w5 : IntKind.i64.wrap ((q : Int)) = (q : Int) := IntWalk.i64_in _ (by omega)
            have w6 : IntKind.i64.wrap (-((q : Int))) = -((q : Int)) := IntWalk.i64_in _ (by omega)
            have v3 : V = -((q : Int)) := by rw [v1]; omega
            subst v2
            clear HO HI HZ hz hI hqr1 HV HB v1
            clear hup
            go_wp2
            refine bodyPost_ret (v := .tuple #[.int .i64 (-((q : Int))), .bool true]) (by simp [results, Try.results34, go_sem, *]) rfl ⟨by first | rfl | rw [v3], rfl⟩

set_option maxHeartbeats 8000000 in
set_option maxRecDepth 100000 in
theorem el10 (x y : Nat) (hx : x ≤ 4398046511104) (hx0 : 0 < x) (hy : 0 < y) (hyb : y < 9223372036854775808) (w : World) :
    Calls Try.prog 34 #[.int .i64 (-(x : Int)), .int .i64 ((y : Int))] w fun e w' => e = .returned (.tuple #[.int .i64 (elV (-(x : Int)) ((y : Int))), .bool (elB (-(x : Int)) ((y : Int)))]) ∧ w = w' := by
  have hd0 : ((y : Int)) ≠ 0 := by omega
  have hng : ngb (-(x : Int)) ((y : Int)) = true := by unfold ngb; rw [show decide (-(x : Int) < 0) = true by simp; omega]; rw [show decide ((y : Int) < 0) = false by simp]; rfl
  have nx : (-(x : Int)).natAbs = x := by omega
  have ny : ((y : Int)).natAbs = y := by omega
  have HE := Lib.hid (fun k q r (hk : k ≤ 32) (h : dvI x y k q r) (hq : 2097152 < q) => el_early (n := -(x : Int)) (d := (y : Int)) hd0 hk (by rw [nx, ny]; exact h) hq)
  have HZ := Lib.hid (fun q r (h : dvI x y 32 q r) => @dvI_end (-(x : Int)) ((y : Int)) q r (by rw [nx, ny]; exact h))
  rw [hng, nx, ny] at HZ
  have HI := Lib.hid (fun R (hR : rnd (x * 4294967296) y true = R) => @el_in (-(x : Int)) ((y : Int)) hd0 R (by rw [nx, ny, hng]; exact hR))
  have HO := Lib.hid (fun R (hR : rnd (x * 4294967296) y true = R) => @el_out (-(x : Int)) ((y : Int)) hd0 R (by rw [nx, ny, hng]; exact hR))
  rw [hng] at HI
  obtain ⟨V, hV⟩ : ∃ V, elV (-(x : Int)) ((y : Int)) = V := ⟨_, rfl⟩
  obtain ⟨B, hB⟩ : ∃ B, elB (-(x : Int)) ((y : Int)) = B := ⟨_, rfl⟩
  rw [hV, hB]
  have HV := Lib.hid hV
  have HB := Lib.hid hB
  clear hV hB hng nx ny hd0
  obtain ⟨q0, hq0⟩ : ∃ q, q = x / y := ⟨_, rfl⟩
  obtain ⟨r0, hr0⟩ : ∃ r, r = x % y := ⟨_, rfl⟩
  have qb : q0 ≤ 4398046511104 := by rw [hq0]; exact Nat.le_trans (Nat.div_le_self _ _) hx
  have rb : r0 < y := by rw [hr0]; exact Nat.mod_lt _ hy
  have a1 : (x : Int) / (y : Int) = (q0 : Int) := by rw [hq0]; rfl
  have a2 : (x : Int).tdiv (y : Int) = (q0 : Int) := by rw [hq0]; rfl
  have a3 : (x : Int) % (y : Int) = (r0 : Int) := by rw [hr0]; rfl
  have a4 : (x : Int).tmod (y : Int) = (r0 : Int) := by rw [hr0]; rfl
  have a5 : IntKind.u64.wrap (q0 : Int) = (q0 : Int) := IntWalk.u64_in _ (by omega)
  have a6 : IntKind.u64.wrap (r0 : Int) = (r0 : Int) := IntWalk.u64_in _ (by omega)
  have a7 : IntKind.u64.wrap (x : Int) = (x : Int) := IntWalk.u64_in _ (by omega)
  have a8 : IntKind.u64.wrap (y : Int) = (y : Int) := IntWalk.u64_in _ (by omega)
  have a9 : IntKind.i64.wrap (x : Int) = (x : Int) := IntWalk.i64_in _ (by omega)
  have a10 : IntKind.i64.wrap (y : Int) = (y : Int) := IntWalk.i64_in _ (by omega)
  have y1 : ¬ (y = 0) := by omega
  have y2 : ((y : Int) == 0) = false := by simp; omega
  have y3 : (0 : Int) < (y : Int) := by omega
  have n1 : -(x : Int) < 0 := by omega
  have n2 : ¬ ((y : Int) < 0) := by omega
  have HS := Lib.hid (show dvI x y 0 q0 r0 by rw [hq0, hr0]; exact dvI_start hy)
  clear hq0 hr0
  go_enter Try.func34, Try.ntmps34
  go_wp2
  clear a1 a2 a3 a4 a5 a6 a7 a8 a9 a10 y1 y2 n1 n2
  go_loop [9, 10, 11] (fun qq rr ii => ∃ q r k : Nat, qq = .int .u64 (q : Int) ∧ rr = .int .u64 (r : Int) ∧ ii = .int .i64 (k : Int) ∧ k ≤ 32 ∧ q ≤ 4398046511104 ∧ r < y ∧ Hid (dvI x y k q r)) (fun _ _ ii => (32 - (intOf ii).toNat))
  case atStart => exact ⟨q0, r0, 0, rfl, rfl, rfl, by omega, qb, rb, HS⟩
  case round =>
    obtain ⟨q, r, k, rfl, rfl, rfl, hk, hqb, hrb, hI⟩ := hrel
    clear HS qb rb
    by_cases hlt : k < 32
    · have kk : IntKind.i64.wrap ((k : Int) + 1) = (k : Int) + 1 := IntWalk.i64_in _ (by omega)
      by_cases hq : 2097152 < q
      · obtain ⟨v1, v2⟩ := HE.out k q r hk hI.out hq
        rw [HV.out] at v1
        rw [HB.out] at v2
        subst v1 v2
        have hq' : 2097152 < (q : Int) := by omega
        clear HO HI HE HZ hI HV HB
        go_wp2
        exact bodyPost_ret (v := .tuple #[.int .i64 0, .bool false]) (by simp [results, Try.results34, go_sem, *]) rfl ⟨rfl, rfl⟩
      · have hq' : ¬ (2097152 < (q : Int)) := by omega
        obtain ⟨s1, s2⟩ := dvI_step hI.out
        have S1 := Lib.hid s1
        have S2 := Lib.hid s2
        clear s1 s2 hI HE HZ HI HO
        have w1 : IntKind.u64.wrap ((q : Int) * 2) = (q : Int) * 2 := IntWalk.u64_in _ (by omega)
        have w2 : IntKind.u64.wrap ((r : Int) * 2) = (r : Int) * 2 := IntWalk.u64_in _ (by omega)
        by_cases hr : y ≤ 2 * r
        · have hr' : (y : Int) ≤ (r : Int) * 2 := by omega
          have w3 : IntKind.u64.wrap ((r : Int) * 2 - (y : Int)) = ((2 * r - y : Nat) : Int) := by rw [IntWalk.u64_in _ (by omega)]; omega
          have w4 : IntKind.u64.wrap ((q : Int) * 2 + 1) = ((2 * q + 1 : Nat) : Int) := by rw [IntWalk.u64_in _ (by omega)]; omega
          have hT := Lib.hid (S1.out hr)
          clear S1 S2
          generalize hq2 : 2 * q + 1 = q2 at *
          generalize hr2 : 2 * r - y = r2 at *
          have B1 := Lib.hid (show q2 ≤ 4398046511104 ∧ r2 < y by omega)
          clear hq2 hr2 hr
          go_wp2
          go_round
          case rel => exact ⟨q2, r2, k + 1, rfl, rfl, by simp, by omega, B1.out.1, B1.out.2, hT⟩
          case measure => simp [intOf]; omega
        · have hr' : ¬ ((y : Int) ≤ (r : Int) * 2) := by omega
          have hT := Lib.hid (S2.out (by omega))
          clear S1 S2
          have B1 := Lib.hid (show 2 * q ≤ 4398046511104 ∧ 2 * r < y by omega)
          clear hr
          go_wp2
          go_round
          case rel => exact ⟨2 * q, 2 * r, k + 1, by simp; omega, by simp; omega, by simp, by omega, B1.out.1, B1.out.2, hT⟩
          case measure => simp [intOf]; omega
    · obtain rfl : k = 32 := by omega
      rw [show ((32 : Nat) : Int) = 32 from rfl]
      clear hlt hk
      by_cases hq : 2097152 < q
      · obtain ⟨v1, v2⟩ := HE.out 32 q r (by omega) hI.out hq
        rw [HV.out] at v1
        rw [HB.out] at v2
        subst v1 v2
        have hq' : 2097152 < (q : Int) := by omega
        clear HO HI HE HZ hI HV HB
        go_wp2
        exact bodyPost_ret (v := .tuple #[.int .i64 0, .bool false]) (by simp [results, Try.results34, go_sem, *]) rfl ⟨rfl, rfl⟩
      · clear HE
        obtain ⟨hqr1, hqr2⟩ := hI.out
        have w1 : IntKind.u64.wrap (2 * (r : Int)) = 2 * (r : Int) := IntWalk.u64_in _ (by omega)
        have hz := HZ.out q r hI.out
        have hq1 : ¬ (2097152 < (q : Int)) := by omega
        by_cases hup : y < 2 * r
        · rw [if_pos (by simp [hup])] at hz
          have hu : (y : Int) < 2 * (r : Int) := by omega
          have hu2 : (y : Int) ≤ 2 * (r : Int) := by omega
          have w4 : IntKind.u64.wrap ((q : Int) + 1) = (q : Int) + 1 := IntWalk.u64_in _ (by omega)
          by_cases hR : 1048576 < q + 1
          · obtain ⟨v1, v2⟩ := HO.out _ hz hR
            rw [HV.out] at v1
            rw [HB.out] at v2
            subst v1 v2
            have hR' : 1048576 < ((q : Int) + 1) := by omega
            clear HO HI HZ hz hI hqr1 HV HB
            clear hup
            go_wp2
            exact bodyPost_ret (v := .tuple #[.int .i64 0, .bool false]) (by simp [results, Try.results34, go_sem, *]) rfl ⟨rfl, rfl⟩
          · obtain ⟨v1, v2⟩ := HI.out _ hz (by omega)
            rw [HV.out] at v1
            rw [HB.out] at v2
            rw [if_pos trivial] at v1
            have hR' : ¬ (1048576 < ((q : Int) + 1)) := by omega
            have w5 : IntKind.i64.wrap ((q : Int) + 1) = (q : Int) + 1 := IntWalk.i64_in _ (by omega)
            have w6 : IntKind.i64.wrap (-((q : Int) + 1)) = -((q : Int) + 1) := IntWalk.i64_in _ (by omega)
            have v3 : V = -((q : Int) + 1) := by rw [v1]; omega
            subst v2
            clear HO HI HZ hz hI hqr1 HV HB v1
            clear hup
            go_wp2
            refine bodyPost_ret (v := .tuple #[.int .i64 (-((q : Int) + 1)), .bool true]) (by simp [results, Try.results34, go_sem, *]) rfl ⟨by first | rfl | rw [v3], rfl⟩
        · rw [if_neg (by simp [hup])] at hz
          have hu : ¬ ((y : Int) < 2 * (r : Int)) := by omega
          by_cases hR : 1048576 < q
          · obtain ⟨v1, v2⟩ := HO.out _ hz hR
            rw [HV.out] at v1
            rw [HB.out] at v2
            subst v1 v2
            have hR' : 1048576 < ((q : Int)) := by omega
            clear HO HI HZ hz hI hqr1 HV HB
            clear hup
            go_wp2
            exact bodyPost_ret (v := .tuple #[.int .i64 0, .bool false]) (by simp [results, Try.results34, go_sem, *]) rfl ⟨rfl, rfl⟩
          · obtain ⟨v1, v2⟩ := HI.out _ hz (by omega)
            rw [HV.out] at v1
            rw [HB.out] at v2
            rw [if_pos trivial] at v1
            have hR' : ¬ (1048576 < ((q : Int))) := by omega
            have w5 : IntKind.i64.wrap ((q : Int)) = (q : Int) := IntWalk.i64_in _ (by omega)
            have w6 : IntKind.i64.wrap (-((q : Int))) = -((q : Int)) := IntWalk.i64_in _ (by omega)
            have v3 : V = -((q : Int)) := by rw [v1]; omega
            subst v2
            clear HO HI HZ hz hI hqr1 HV HB v1
            clear hup
            go_wp2
            refine bodyPost_ret (v := .tuple #[.int .i64 (-((q : Int))), .bool true]) (by simp [results, Try.results34, go_sem, *]) rfl ⟨by first | rfl | rw [v3], rfl⟩

set_option maxHeartbeats 8000000 in
set_option maxRecDepth 100000 in
theorem el11 (x y : Nat) (hx : x ≤ 4398046511104) (hx0 : 0 < x) (hy : 0 < y) (hyb : y < 9223372036854775808) (w : World) :
    Calls Try.prog 34 #[.int .i64 (-(x : Int)), .int .i64 (-(y : Int))] w fun e w' => e = .returned (.tuple #[.int .i64 (elV (-(x : Int)) (-(y : Int))), .bool (elB (-(x : Int)) (-(y : Int)))]) ∧ w = w' := by
  have hd0 : (-(y : Int)) ≠ 0 := by omega
  have hng : ngb (-(x : Int)) (-(y : Int)) = false := by unfold ngb; rw [show decide (-(x : Int) < 0) = true by simp; omega]; rw [show decide (-(y : Int) < 0) = true by simp; omega]; rfl
  have nx : (-(x : Int)).natAbs = x := by omega
  have ny : (-(y : Int)).natAbs = y := by omega
  have HE := Lib.hid (fun k q r (hk : k ≤ 32) (h : dvI x y k q r) (hq : 2097152 < q) => el_early (n := -(x : Int)) (d := -(y : Int)) hd0 hk (by rw [nx, ny]; exact h) hq)
  have HZ := Lib.hid (fun q r (h : dvI x y 32 q r) => @dvI_end (-(x : Int)) (-(y : Int)) q r (by rw [nx, ny]; exact h))
  rw [hng, nx, ny] at HZ
  have HI := Lib.hid (fun R (hR : rnd (x * 4294967296) y false = R) => @el_in (-(x : Int)) (-(y : Int)) hd0 R (by rw [nx, ny, hng]; exact hR))
  have HO := Lib.hid (fun R (hR : rnd (x * 4294967296) y false = R) => @el_out (-(x : Int)) (-(y : Int)) hd0 R (by rw [nx, ny, hng]; exact hR))
  rw [hng] at HI
  obtain ⟨V, hV⟩ : ∃ V, elV (-(x : Int)) (-(y : Int)) = V := ⟨_, rfl⟩
  obtain ⟨B, hB⟩ : ∃ B, elB (-(x : Int)) (-(y : Int)) = B := ⟨_, rfl⟩
  rw [hV, hB]
  have HV := Lib.hid hV
  have HB := Lib.hid hB
  clear hV hB hng nx ny hd0
  obtain ⟨q0, hq0⟩ : ∃ q, q = x / y := ⟨_, rfl⟩
  obtain ⟨r0, hr0⟩ : ∃ r, r = x % y := ⟨_, rfl⟩
  have qb : q0 ≤ 4398046511104 := by rw [hq0]; exact Nat.le_trans (Nat.div_le_self _ _) hx
  have rb : r0 < y := by rw [hr0]; exact Nat.mod_lt _ hy
  have a1 : (x : Int) / (y : Int) = (q0 : Int) := by rw [hq0]; rfl
  have a2 : (x : Int).tdiv (y : Int) = (q0 : Int) := by rw [hq0]; rfl
  have a3 : (x : Int) % (y : Int) = (r0 : Int) := by rw [hr0]; rfl
  have a4 : (x : Int).tmod (y : Int) = (r0 : Int) := by rw [hr0]; rfl
  have a5 : IntKind.u64.wrap (q0 : Int) = (q0 : Int) := IntWalk.u64_in _ (by omega)
  have a6 : IntKind.u64.wrap (r0 : Int) = (r0 : Int) := IntWalk.u64_in _ (by omega)
  have a7 : IntKind.u64.wrap (x : Int) = (x : Int) := IntWalk.u64_in _ (by omega)
  have a8 : IntKind.u64.wrap (y : Int) = (y : Int) := IntWalk.u64_in _ (by omega)
  have a9 : IntKind.i64.wrap (x : Int) = (x : Int) := IntWalk.i64_in _ (by omega)
  have a10 : IntKind.i64.wrap (y : Int) = (y : Int) := IntWalk.i64_in _ (by omega)
  have y1 : ¬ (y = 0) := by omega
  have y2 : ((y : Int) == 0) = false := by simp; omega
  have y3 : (0 : Int) < (y : Int) := by omega
  have n1 : -(x : Int) < 0 := by omega
  have n2 : -(y : Int) < 0 := by omega
  have HS := Lib.hid (show dvI x y 0 q0 r0 by rw [hq0, hr0]; exact dvI_start hy)
  clear hq0 hr0
  go_enter Try.func34, Try.ntmps34
  go_wp2
  clear a1 a2 a3 a4 a5 a6 a7 a8 a9 a10 y1 y2 n1 n2
  go_loop [9, 10, 11] (fun qq rr ii => ∃ q r k : Nat, qq = .int .u64 (q : Int) ∧ rr = .int .u64 (r : Int) ∧ ii = .int .i64 (k : Int) ∧ k ≤ 32 ∧ q ≤ 4398046511104 ∧ r < y ∧ Hid (dvI x y k q r)) (fun _ _ ii => (32 - (intOf ii).toNat))
  case atStart => exact ⟨q0, r0, 0, rfl, rfl, rfl, by omega, qb, rb, HS⟩
  case round =>
    obtain ⟨q, r, k, rfl, rfl, rfl, hk, hqb, hrb, hI⟩ := hrel
    clear HS qb rb
    by_cases hlt : k < 32
    · have kk : IntKind.i64.wrap ((k : Int) + 1) = (k : Int) + 1 := IntWalk.i64_in _ (by omega)
      by_cases hq : 2097152 < q
      · obtain ⟨v1, v2⟩ := HE.out k q r hk hI.out hq
        rw [HV.out] at v1
        rw [HB.out] at v2
        subst v1 v2
        have hq' : 2097152 < (q : Int) := by omega
        clear HO HI HE HZ hI HV HB
        go_wp2
        exact bodyPost_ret (v := .tuple #[.int .i64 0, .bool false]) (by simp [results, Try.results34, go_sem, *]) rfl ⟨rfl, rfl⟩
      · have hq' : ¬ (2097152 < (q : Int)) := by omega
        obtain ⟨s1, s2⟩ := dvI_step hI.out
        have S1 := Lib.hid s1
        have S2 := Lib.hid s2
        clear s1 s2 hI HE HZ HI HO
        have w1 : IntKind.u64.wrap ((q : Int) * 2) = (q : Int) * 2 := IntWalk.u64_in _ (by omega)
        have w2 : IntKind.u64.wrap ((r : Int) * 2) = (r : Int) * 2 := IntWalk.u64_in _ (by omega)
        by_cases hr : y ≤ 2 * r
        · have hr' : (y : Int) ≤ (r : Int) * 2 := by omega
          have w3 : IntKind.u64.wrap ((r : Int) * 2 - (y : Int)) = ((2 * r - y : Nat) : Int) := by rw [IntWalk.u64_in _ (by omega)]; omega
          have w4 : IntKind.u64.wrap ((q : Int) * 2 + 1) = ((2 * q + 1 : Nat) : Int) := by rw [IntWalk.u64_in _ (by omega)]; omega
          have hT := Lib.hid (S1.out hr)
          clear S1 S2
          generalize hq2 : 2 * q + 1 = q2 at *
          generalize hr2 : 2 * r - y = r2 at *
          have B1 := Lib.hid (show q2 ≤ 4398046511104 ∧ r2 < y by omega)
          clear hq2 hr2 hr
          go_wp2
          go_round
          case rel => exact ⟨q2, r2, k + 1, rfl, rfl, by simp, by omega, B1.out.1, B1.out.2, hT⟩
          case measure => simp [intOf]; omega
        · have hr' : ¬ ((y : Int) ≤ (r : Int) * 2) := by omega
          have hT := Lib.hid (S2.out (by omega))
          clear S1 S2
          have B1 := Lib.hid (show 2 * q ≤ 4398046511104 ∧ 2 * r < y by omega)
          clear hr
          go_wp2
          go_round
          case rel => exact ⟨2 * q, 2 * r, k + 1, by simp; omega, by simp; omega, by simp, by omega, B1.out.1, B1.out.2, hT⟩
          case measure => simp [intOf]; omega
    · obtain rfl : k = 32 := by omega
      rw [show ((32 : Nat) : Int) = 32 from rfl]
      clear hlt hk
      by_cases hq : 2097152 < q
      · obtain ⟨v1, v2⟩ := HE.out 32 q r (by omega) hI.out hq
        rw [HV.out] at v1
        rw [HB.out] at v2
        subst v1 v2
        have hq' : 2097152 < (q : Int) := by omega
        clear HO HI HE HZ hI HV HB
        go_wp2
        exact bodyPost_ret (v := .tuple #[.int .i64 0, .bool false]) (by simp [results, Try.results34, go_sem, *]) rfl ⟨rfl, rfl⟩
      · clear HE
        obtain ⟨hqr1, hqr2⟩ := hI.out
        have w1 : IntKind.u64.wrap (2 * (r : Int)) = 2 * (r : Int) := IntWalk.u64_in _ (by omega)
        have hz := HZ.out q r hI.out
        have hq1 : ¬ (2097152 < (q : Int)) := by omega
        by_cases hup : y ≤ 2 * r
        · rw [if_pos (by simp [hup])] at hz
          have hu : (y : Int) ≤ 2 * (r : Int) := by omega
          skip
          have w4 : IntKind.u64.wrap ((q : Int) + 1) = (q : Int) + 1 := IntWalk.u64_in _ (by omega)
          by_cases hR : 1048576 < q + 1
          · obtain ⟨v1, v2⟩ := HO.out _ hz hR
            rw [HV.out] at v1
            rw [HB.out] at v2
            subst v1 v2
            have hR' : 1048576 < ((q : Int) + 1) := by omega
            clear HO HI HZ hz hI hqr1 HV HB
            clear hup
            go_wp2
            exact bodyPost_ret (v := .tuple #[.int .i64 0, .bool false]) (by simp [results, Try.results34, go_sem, *]) rfl ⟨rfl, rfl⟩
          · obtain ⟨v1, v2⟩ := HI.out _ hz (by omega)
            rw [HV.out] at v1
            rw [HB.out] at v2
            rw [if_neg (by decide)] at v1
            have hR' : ¬ (1048576 < ((q : Int) + 1)) := by omega
            have w5 : IntKind.i64.wrap ((q : Int) + 1) = (q : Int) + 1 := IntWalk.i64_in _ (by omega)
            have w6 : IntKind.i64.wrap (-((q : Int) + 1)) = -((q : Int) + 1) := IntWalk.i64_in _ (by omega)
            have v3 : V = ((q : Int) + 1) := by rw [v1]; omega
            subst v2
            clear HO HI HZ hz hI hqr1 HV HB v1
            clear hup
            go_wp2
            refine bodyPost_ret (v := .tuple #[.int .i64 (((q : Int) + 1)), .bool true]) (by simp [results, Try.results34, go_sem, *]) rfl ⟨by first | rfl | rw [v3], rfl⟩
        · rw [if_neg (by simp [hup])] at hz
          have hu : ¬ ((y : Int) ≤ 2 * (r : Int)) := by omega
          by_cases hR : 1048576 < q
          · obtain ⟨v1, v2⟩ := HO.out _ hz hR
            rw [HV.out] at v1
            rw [HB.out] at v2
            subst v1 v2
            have hR' : 1048576 < ((q : Int)) := by omega
            clear HO HI HZ hz hI hqr1 HV HB
            clear hup
            go_wp2
            exact bodyPost_ret (v := .tuple #[.int .i64 0, .bool false]) (by simp [results, Try.results34, go_sem, *]) rfl ⟨rfl, rfl⟩
          · obtain ⟨v1, v2⟩ := HI.out _ hz (by omega)
            rw [HV.out] at v1
            rw [HB.out] at v2
            rw [if_neg (by decide)] at v1
            have hR' : ¬ (1048576 < ((q : Int))) := by omega
            have w5 : IntKind.i64.wrap ((q : Int)) = (q : Int) := IntWalk.i64_in _ (by omega)
            have w6 : IntKind.i64.wrap (-((q : Int))) = -((q : Int)) := IntWalk.i64_in _ (by omega)
            have v3 : V = ((q : Int)) := by rw [v1]; omega
            subst v2
            clear HO HI HZ hz hI hqr1 HV HB v1
            clear hup
            go_wp2
            refine bodyPost_ret (v := .tuple #[.int .i64 (((q : Int))), .bool true]) (by simp [results, Try.results34, go_sem, *]) rfl ⟨by first | rfl | rw [v3], rfl⟩

end Go.Proofs.Ytmafmpgpaioniaa
