import Derived.Test.YtmafmpgpaioniaaProg
import Derived.WalkKit
import Derived.WalkLawsBesides
import Derived.Outline
import Derived.Lib.Walk
import Derived.Deep.QuietTactic
import Derived.BigQuiet
import Derived.RowKit3
import Derived.Deep.LoopGhost
import Derived.Laws.Rows
import Derived.Laws.Tables
import Derived.Laws.CopyOwn
import Derived.Lib.Hide
import Derived.Handy
import Derived.Deep.Onto
import Derived.IntWalk
import Derived.Deep.WholeRow
import Derived.Laws.ResultCell
import Derived.Test.YtmafmpgpaioniaaA3
namespace Go.Proofs.Ytmafmpgpaioniaa
open Go.RowKit
set_option maxHeartbeats 400000
set_option linter.unusedVariables false

/-- the exact determinant (rows a b c, d e f, g h i). -/
def det (a b c d e f g h i : Int) : Int := a * (e * i - f * h) + b * -(d * i - f * g) + c * (d * h - e * g)
theorem det_turned (a b c d e f g h i : Int) : det a d g b e h c f i = det a b c d e f g h i := by unfold det; grind
theorem det_mul (a b c d e f g h i A B C D E F G H I : Int) :
    det (a*A+b*D+c*G) (a*B+b*E+c*H) (a*C+b*F+c*I) (d*A+e*D+f*G) (d*B+e*E+f*H) (d*C+e*F+f*I) (g*A+h*D+i*G) (g*B+h*E+i*H) (g*C+h*F+i*I) = det a b c d e f g h i * det A B C D E F G H I := by unfold det; grind
theorem det_scale (k a b c d e f g h i : Int) : det (a*k) (b*k) (c*k) (d*k) (e*k) (f*k) (g*k) (h*k) (i*k) = det a b c d e f g h i * (k*k*k) := by unfold det; grind
/-- the adjugate times the matrix (adjugate rows: ei-fh, ch-bi, bf-ce; fg-di, ai-cg, cd-af; dh-eg, bg-ah, ae-bd). -/
theorem adj00 (a b c d e f g h i : Int) : (e*i-f*h)*a + (c*h-b*i)*d + (b*f-c*e)*g = det a b c d e f g h i := by unfold det; grind
theorem adj01 (a b c d e f g h i : Int) : (e*i-f*h)*b + (c*h-b*i)*e + (b*f-c*e)*h = 0 := by grind
theorem adj02 (a b c d e f g h i : Int) : (e*i-f*h)*c + (c*h-b*i)*f + (b*f-c*e)*i = 0 := by grind
theorem adj10 (a b c d e f g h i : Int) : (f*g-d*i)*a + (a*i-c*g)*d + (c*d-a*f)*g = 0 := by grind
theorem adj11 (a b c d e f g h i : Int) : (f*g-d*i)*b + (a*i-c*g)*e + (c*d-a*f)*h = det a b c d e f g h i := by unfold det; grind
theorem adj12 (a b c d e f g h i : Int) : (f*g-d*i)*c + (a*i-c*g)*f + (c*d-a*f)*i = 0 := by grind
theorem adj20 (a b c d e f g h i : Int) : (d*h-e*g)*a + (b*g-a*h)*d + (a*e-b*d)*g = 0 := by grind
theorem adj21 (a b c d e f g h i : Int) : (d*h-e*g)*b + (b*g-a*h)*e + (a*e-b*d)*h = 0 := by grind
theorem adj22 (a b c d e f g h i : Int) : (d*h-e*g)*c + (b*g-a*h)*f + (a*e-b*d)*i = det a b c d e f g h i := by unfold det; grind
def ab (x : Int) : Int := max x (-x)
theorem ab_nonneg (x : Int) : 0 ≤ ab x := by unfold ab; omega
theorem le_ab (x : Int) : x ≤ ab x ∧ -x ≤ ab x := by unfold ab; omega
theorem ab_le {x n : Int} (h : x ≤ n) (h' : -x ≤ n) : ab x ≤ n := by unfold ab; omega
theorem ab_mul (x y : Int) : ab (x * y) = ab x * ab y := by
  unfold ab
  rcases Int.le_total 0 x with hx | hx <;> rcases Int.le_total 0 y with hy | hy
  · rw [show max x (-x) = x by omega, show max y (-y) = y by omega]; have := Int.mul_nonneg hx hy; omega
  · rw [show max x (-x) = x by omega, show max y (-y) = -y by omega, Int.mul_neg]; have := Int.mul_nonpos_of_nonneg_of_nonpos hx hy; omega
  · rw [show max x (-x) = -x by omega, show max y (-y) = y by omega, Int.neg_mul]; have := Int.mul_nonpos_of_nonpos_of_nonneg hx hy; omega
  · rw [show max x (-x) = -x by omega, show max y (-y) = -y by omega, Int.neg_mul_neg]; have := Int.mul_nonneg_of_nonpos_of_nonpos hx hy; omega
/-- a row of rounded quotients, times a column: the quotients t of n 2^32 by D are off by at most a half each, and the exact sum of n times m is s D. -/
theorem back_bound {D n0 n1 n2 m0 m1 m2 t0 t1 t2 s : Int} (hD : D ≠ 0) (h0 : 2 * ab (t0 * D - n0 * 4294967296) ≤ ab D) (h1 : 2 * ab (t1 * D - n1 * 4294967296) ≤ ab D) (h2 : 2 * ab (t2 * D - n2 * 4294967296) ≤ ab D)
    (hs : n0 * m0 + n1 * m1 + n2 * m2 = s * D) : 2 * ab (t0 * m0 + t1 * m1 + t2 * m2 - s * 4294967296) ≤ ab m0 + ab m1 + ab m2 := by
  have hDp : 0 < ab D := by unfold ab; omega
  have e : (t0 * m0 + t1 * m1 + t2 * m2 - s * 4294967296) * D = (t0 * D - n0 * 4294967296) * m0 + (t1 * D - n1 * 4294967296) * m1 + (t2 * D - n2 * 4294967296) * m2 := by grind
  have k0 := Int.mul_le_mul_of_nonneg_right h0 (ab_nonneg m0)
  have k1 := Int.mul_le_mul_of_nonneg_right h1 (ab_nonneg m1)
  have k2 := Int.mul_le_mul_of_nonneg_right h2 (ab_nonneg m2)
  rw [Int.mul_assoc, ← ab_mul] at k0 k1 k2
  have a0 := le_ab ((t0 * D - n0 * 4294967296) * m0)
  have a1 := le_ab ((t1 * D - n1 * 4294967296) * m1)
  have a2 := le_ab ((t2 * D - n2 * 4294967296) * m2)
  have q := ab_mul (t0 * m0 + t1 * m1 + t2 * m2 - s * 4294967296) D
  rw [e] at q
  generalize (t0 * D - n0 * 4294967296) * m0 = x0 at *
  generalize (t1 * D - n1 * 4294967296) * m1 = x1 at *
  generalize (t2 * D - n2 * 4294967296) * m2 = x2 at *
  have b := ab_le (x := x0 + x1 + x2) (n := ab x0 + ab x1 + ab x2) (by omega) (by omega)
  rw [q] at b
  refine Int.not_lt.1 fun hl => ?_
  have c := Int.mul_le_mul_of_nonneg_right (show ab m0 + ab m1 + ab m2 + 1 ≤ 2 * ab (t0 * m0 + t1 * m1 + t2 * m2 - s * 4294967296) by omega) (show 0 ≤ ab D by omega)
  generalize ab (t0 * m0 + t1 * m1 + t2 * m2 - s * 4294967296) = A at *
  have d : (ab m0 + ab m1 + ab m2 + 1) * ab D = ab D * ab m0 + ab D * ab m1 + ab D * ab m2 + ab D := by grind
  rw [d, Int.mul_assoc] at c
  omega
/-- bounds of products of numbers that are at most 2^20 in amount. -/
theorem mulb {x y A B : Int} (hx : ab x ≤ A) (hy : ab y ≤ B) : ab (x * y) ≤ A * B := by
  rw [ab_mul]
  exact Int.mul_le_mul hx hy (ab_nonneg y) (Int.le_trans (ab_nonneg x) hx)
theorem sub_bd {x y A B : Int} (hx : ab x ≤ A) (hy : ab y ≤ B) : ab (x - y) ≤ A + B := by unfold ab at *; omega
theorem add_bd {x y A B : Int} (hx : ab x ≤ A) (hy : ab y ≤ B) : ab (x + y) ≤ A + B := by unfold ab at *; omega
theorem neg_bd {x A : Int} (hx : ab x ≤ A) : ab (-x) ≤ A := by unfold ab at *; omega
theorem cof_bd {a b c d : Int} (ha : ab a ≤ 1048576) (hb : ab b ≤ 1048576) (hc : ab c ≤ 1048576) (hd : ab d ≤ 1048576) : ab (a * b - c * d) ≤ 2199023255552 := sub_bd (mulb ha hb) (mulb hc hd)
theorem det_bd {a b c d e f g h i : Int} (ha : ab a ≤ 1048576) (hb : ab b ≤ 1048576) (hc : ab c ≤ 1048576) (hd : ab d ≤ 1048576) (he : ab e ≤ 1048576) (hf : ab f ≤ 1048576) (hg : ab g ≤ 1048576) (hh : ab h ≤ 1048576) (hi : ab i ≤ 1048576) :
    ab (det a b c d e f g h i) ≤ 6917529027641081856 := add_bd (add_bd (mulb ha (cof_bd he hi hf hh)) (mulb hb (neg_bd (cof_bd hd hi hf hg)))) (mulb hc (cof_bd hd hh he hg))

/-- the cofactor of the element (i, j). -/
def cofF (m : Nat → Int) (i j : Nat) : Int := m (3 * ((i + 1) % 3) + (j + 1) % 3) * m (3 * ((i + 2) % 3) + (j + 2) % 3) - m (3 * ((i + 1) % 3) + (j + 2) % 3) * m (3 * ((i + 2) % 3) + (j + 1) % 3)
/-- the exact determinant. -/
def detF (m : Nat → Int) : Int := m 0 * cofF m 0 0 + m 1 * cofF m 0 1 + m 2 * cofF m 0 2
theorem detF_det (m : Nat → Int) : detF m = det (m 0) (m 1) (m 2) (m 3) (m 4) (m 5) (m 6) (m 7) (m 8) := by
  unfold detF cofF det
  simp only [Nat.reduceAdd, Nat.reduceMod, Nat.reduceMul]
  grind
def detV (m : Nat → Int) : Int := if okM m = true then dvi (detF m) 4294967296 else 0
theorem ab_of {x : Int} (h : -1048576 ≤ x ∧ x ≤ 1048576) : ab x ≤ 1048576 := by unfold ab; omega
theorem of_ab {x n : Int} (h : ab x ≤ n) : -n ≤ x ∧ x ≤ n := by unfold ab at h; omega
theorem prod_b {m : Nat → Int} (h : okM m = true) (p q : Nat) (hp : p < 9) (hq : q < 9) : -1099511627776 ≤ m p * m q ∧ m p * m q ≤ 1099511627776 := of_ab (mulb (ab_of (okM_at h p hp)) (ab_of (okM_at h q hq)))
theorem cof_b {m : Nat → Int} (h : okM m = true) (i j : Nat) : -2199023255552 ≤ cofF m i j ∧ cofF m i j ≤ 2199023255552 := by
  unfold cofF
  have h1 := prod_b h (3 * ((i + 1) % 3) + (j + 1) % 3) (3 * ((i + 2) % 3) + (j + 2) % 3) (by omega) (by omega)
  have h2 := prod_b h (3 * ((i + 1) % 3) + (j + 2) % 3) (3 * ((i + 2) % 3) + (j + 1) % 3) (by omega) (by omega)
  omega
theorem term_b {m : Nat → Int} (h : okM m = true) (k i j : Nat) (hk : k < 9) : -2305843009213693952 ≤ m k * cofF m i j ∧ m k * cofF m i j ≤ 2305843009213693952 := by
  have h1 : ab (cofF m i j) ≤ 2199023255552 := by have := cof_b h i j; unfold ab; omega
  exact of_ab (mulb (ab_of (okM_at h k hk)) h1)
theorem detF_b {m : Nat → Int} (h : okM m = true) : -6917529027641081856 ≤ detF m ∧ detF m ≤ 6917529027641081856 := by
  unfold detF
  have h0 := term_b h 0 0 0 (by omega)
  have h1 := term_b h 1 0 1 (by omega)
  have h2 := term_b h 2 0 2 (by omega)
  omega
/-- the elements of the inverse. -/
def invF (m : Nat → Int) (n : Nat) : Int := rati (cofF m (n % 3) (n / 3) * 65536) (detF m)
theorem inv_at (m : Nat → Int) {i j : Nat} (hi : i < 3) (hj : j < 3) : invF m (3 * i + j) = rati (cofF m j i * 65536) (detF m) := by
  unfold invF
  rw [show (3 * i + j) % 3 = j by omega, show (3 * i + j) / 3 = i by omega]
/-- the inverse's error. -/
def invE (m : Nat → Int) : Int := if okM m = true then (if detF m = 0 then 17 else if okM (invF m) = true then 0 else 17) else 2
/-- the inverse, and 0 beside an error. -/
def invM (m : Nat → Int) : Nat → Int := if okM m = true ∧ detF m ≠ 0 ∧ okM (invF m) = true then invF m else fun _ => 0
def clv (x : Int) : Int := min 1073741824 (max x (-1073741824))
theorem clv_b (x : Int) : -1073741824 ≤ clv x ∧ clv x ≤ 1073741824 := by unfold clv; omega
/-- the rounded image of a vector. -/
def appF (m v : Nat → Int) (i : Nat) : Int := dvi (dot (rowF m i) (fun k => clv (v k))) 65536
def appM (m v : Nat → Int) : Nat → Int := if okM m = true then appF m v else fun _ => 0

end Go.Proofs.Ytmafmpgpaioniaa
