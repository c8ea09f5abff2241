import Derived.Test.YtmekcgbljpeglaaDoorInts
import Derived.Test.YtmekcgbljpeglaaDoorX1
namespace Go.Proofs.YtmekcgbljpeglaaDoor
open Go.RowKit
set_option maxHeartbeats 400000
set_option linter.unusedVariables false

/-- a pixel. -/
structure Px where
  r : Int
  g : Int
  b : Int
  a : Int
/-- its value in Go. -/
def Px.val (p : Px) : Value := .agg #[.int .i64 p.r, .int .i64 p.g, .int .i64 p.b, .int .i64 p.a]
def Px.lim (p : Px) : Px := ⟨un p.r, un p.g, un p.b, un p.a⟩
def Px.same (p q : Px) : Bool := (p.r == q.r) && ((p.g == q.g) && ((p.b == q.b) && (p.a == q.a)))
theorem same_iff (p q : Px) : p.same q = true ↔ p = q := by
  obtain ⟨a, b, c, d⟩ := p
  obtain ⟨a', b', c', d'⟩ := q
  simp [Px.same]
theorem same_self (p : Px) : p.same p = true := (same_iff p p).2 rfl
theorem same_comm (p q : Px) : p.same q = q.same p := by rw [Bool.eq_iff_iff, same_iff, same_iff]; exact eq_comm
def Px.vld (p : Px) : Bool := p.same p.lim
def Px.pre (p : Px) : Px := ⟨mulu p.r p.a, mulu p.g p.a, mulu p.b p.a, un p.a⟩
def Px.str (p : Px) : Px := ⟨quou p.r p.a, quou p.g p.a, quou p.b p.a, un p.a⟩
def Px.fade (p : Px) (t : Int) : Px := if mulu p.a t = 0 then ⟨0, 0, 0, 0⟩ else ⟨un p.r, un p.g, un p.b, mulu p.a t⟩
theorem un_un (x : Int) : un (un x) = un x := by unfold un; omega
theorem un_id {x : Int} (h : 0 ≤ x) (h' : x ≤ 65535) : un x = x := by unfold un; omega
theorem mulu_un (a t : Int) : mulu (un a) t = mulu a t := by unfold mulu; rw [un_un]
/-- a world with more blocks behind its own, of which nothing has turned. -/
def Gr (w w' : World) : Prop := Below w.heap.size w w' ∧ Grown w w'
theorem bel_trans {a b c : World} (h : Below a.heap.size a b) (k : Below b.heap.size b c) : Below a.heap.size a c := h.trans (k.mono h.size)
theorem bel_dr {a W : World} (h : Below a.heap.size a W) (q : Nat) : Below a.heap.size a (W.drewN q) := ⟨h.os, h.tape, h.output, h.size, h.block⟩
theorem bel_drewN {W : World} (q : Nat) : Below W.heap.size W (W.drewN q) := ⟨rfl, rfl, rfl, Nat.le_refl _, fun _ _ => rfl⟩
theorem bel_al {a W : World} (h : Below a.heap.size a W) (o : Obj) : Below a.heap.size a (W.alloc o) := h.alloc h.size o
theorem ret_bool {a b : Bool} (h : a = b) : Ending.returned (.bool a) = .returned (.bool b) := by rw [h]
/-- a quotient of numbers that are not negative. -/
theorem dvi_rd {x y : Int} (hx : 0 ≤ x) (hx' : x ≤ 4611686018427387904) (hy : 0 < y) : dvi x y = ((PX.rd x.toNat y.toNat : Nat) : Int) := by
  unfold dvi dv
  rw [if_neg (show ¬ y.natAbs = 0 by omega)]
  have e1 : ngb x y = false := by
    unfold ngb
    rw [decide_eq_false (show ¬ x < 0 by omega), decide_eq_false (show ¬ y < 0 by omega)]
    rfl
  have e2 : x.natAbs = x.toNat := by omega
  have e3 : y.natAbs = y.toNat := by omega
  rw [e1, e2, e3]
  have e4 : rnd x.toNat y.toNat false = PX.rd x.toNat y.toNat := by unfold rnd PX.rd; simp
  rw [e4]
  have h1 : PX.rd x.toNat y.toNat ≤ x.toNat := by
    refine PX.rd_le (by omega) ?_
    exact Nat.le_mul_of_pos_right _ (by omega)
  rw [sgd_small (by omega)]
  rfl
theorem dvi_zero (x : Int) : dvi x 0 = 0 := rfl
/-- the product of two unit values. -/
theorem mulu_rd (a t : Int) : mulu a t = ((PX.rd ((un a).toNat * (un t).toNat) 65535 : Nat) : Int) := by
  obtain ⟨h1, h2⟩ := un_mul a t
  unfold mulu
  rw [dvi_rd h1 (by omega) (by omega)]
  congr 2
  have h3 := un_lo a
  have h4 := un_lo t
  generalize un a = x at *
  generalize un t = y at *
  obtain ⟨m, rfl⟩ : ∃ m : Nat, x = (m : Int) := ⟨x.toNat, by omega⟩
  obtain ⟨n, rfl⟩ : ∃ n : Nat, y = (n : Int) := ⟨y.toNat, by omega⟩
  rw [← Int.natCast_mul]
  rfl
theorem mulu_bd (a t : Int) : 0 ≤ mulu a t ∧ mulu a t ≤ 65535 := by
  rw [mulu_rd]
  have h1 := un_lo a; have h2 := un_lo t; have h3 := un_hi a; have h4 := un_hi t
  have : PX.rd ((un a).toNat * (un t).toNat) 65535 ≤ 65535 := PX.rd_le (by omega) (Nat.mul_le_mul (by omega) (by omega))
  omega
theorem un_mulu (a t : Int) : un (mulu a t) = mulu a t := by obtain ⟨h1, h2⟩ := mulu_bd a t; exact un_id h1 h2
/-- the quotient of two unit values. -/
theorem quou_rd (c a : Int) (h : 0 < un a) : quou c a = ((min 65535 (PX.rd ((un c).toNat * 65535) (un a).toNat) : Nat) : Int) := by
  have h1 := un_lo c; have h3 := un_hi c
  unfold quou
  rw [dvi_rd (by omega) (by omega) h, show (un c * 65535).toNat = (un c).toNat * 65535 by omega]
  omega
theorem quou_zero (c a : Int) (h : un a = 0) : quou c a = 0 := by
  unfold quou
  rw [h, dvi_zero]
  rfl
theorem quou_bd (c a : Int) : 0 ≤ quou c a ∧ quou c a ≤ 65535 := by
  have h1 := un_lo a
  by_cases h : un a = 0
  · rw [quou_zero c a h]; omega
  · rw [quou_rd c a (by omega)]; omega
/-- the specification's form of the quotient. -/
theorem quou_ref (c a : Int) (h : 0 < un a) : un (dvi (un c * 65535) (un a)) = quou c a := by
  have h1 := un_lo c; have h3 := un_hi c
  have h2 : 0 ≤ dvi (un c * 65535) (un a) := by rw [dvi_rd (by omega) (by omega) h]; omega
  unfold quou un at *
  omega
theorem str_zero (p : Px) (h : un p.a = 0) : p.str = ⟨0, 0, 0, 0⟩ := by
  unfold Px.str
  rw [quou_zero _ _ h, quou_zero _ _ h, quou_zero _ _ h, h]
/-- Mix. -/
def mxD (a b t : Int) : Int := un a * (65535 - un t) + un b * un t
def mxC (x y a b t : Int) : Int := dvi (un x * (un a * (65535 - un t)) + un y * (un b * un t)) (mxD a b t)
def Px.mix (p q : Px) (t : Int) : Px :=
  if dvi (mxD p.a q.a t) 65535 = 0 then ⟨0, 0, 0, 0⟩ else ⟨mxC p.r q.r p.a q.a t, mxC p.g q.g p.a q.a t, mxC p.b q.b p.a q.a t, dvi (mxD p.a q.a t) 65535⟩
def Px.luma (p : Px) : Int := dvi (13933 * un p.r + 46871 * un p.g + 4731 * un p.b) 65535
def gapI (x y : Int) : Int := max (x - y) (y - x)
def Px.dist (p q : Px) : Int := max (gapI (un p.r) (un q.r)) (max (gapI (un p.g) (un q.g)) (max (gapI (un p.b) (un q.b)) (gapI (un p.a) (un q.a))))
def un8 (v : Int) : Int := min 255 (max v 0)
def fr8 (v : Int) : Int := 257 * un8 v
def to8 (v : Int) : Int := dvi (un v) 257

end Go.Proofs.YtmekcgbljpeglaaDoor
