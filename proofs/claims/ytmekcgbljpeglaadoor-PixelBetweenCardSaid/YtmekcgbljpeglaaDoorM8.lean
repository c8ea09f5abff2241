import Derived.Test.YtmekcgbljpeglaaDoorA1
namespace Go.Proofs.YtmekcgbljpeglaaDoor
open Go.RowKit
set_option maxHeartbeats 400000
set_option linter.unusedVariables false

/-- the mean of two values. -/
theorem mix_clear (p q : Px) (t : Int) (hp : un p.a = 0) (hq : un q.a = 0) : p.mix q t = ⟨0, 0, 0, 0⟩ := by
  unfold Px.mix mxD
  rw [hp, hq, if_pos (by rw [Int.zero_mul, Int.zero_mul]; rfl)]
theorem mxD_nat (A B T : Nat) (hA : A ≤ 65535) (hB : B ≤ 65535) (hT : T ≤ 65535) : mxD (A : Int) (B : Int) (T : Int) = ((A * (65535 - T) + B * T : Nat) : Int) := by
  unfold mxD
  rw [un_id (by omega) (by omega), un_id (by omega) (by omega), un_id (by omega) (by omega), Int.natCast_add, Int.natCast_mul, Int.natCast_mul, Int.natCast_sub hT]
  rfl
theorem mxC_nat (X Y A B T : Nat) (hX : X ≤ 65535) (hY : Y ≤ 65535) (hA : A ≤ 65535) (hB : B ≤ 65535) (hT : T ≤ 65535) (hD : 0 < A * (65535 - T) + B * T) :
    mxC (X : Int) (Y : Int) (A : Int) (B : Int) (T : Int) = ((PX.rd (X * (A * (65535 - T)) + Y * (B * T)) (A * (65535 - T) + B * T) : Nat) : Int) := by
  have e : ∀ n : Nat, ((n : Int)).toNat = n := fun n => by omega
  have h1 : A * (65535 - T) ≤ 65535 * 65535 := Nat.mul_le_mul hA (by omega)
  have h2 : B * T ≤ 65535 * 65535 := Nat.mul_le_mul hB hT
  have h3 : X * (A * (65535 - T)) ≤ 65535 * (65535 * 65535) := Nat.mul_le_mul hX h1
  have h4 : Y * (B * T) ≤ 65535 * (65535 * 65535) := Nat.mul_le_mul hY h2
  have e1 : un (X : Int) * (un (A : Int) * (65535 - un (T : Int))) + un (Y : Int) * (un (B : Int) * un (T : Int)) = ((X * (A * (65535 - T)) + Y * (B * T) : Nat) : Int) := by
    rw [un_id (by omega) (by omega), un_id (by omega) (by omega), un_id (by omega) (by omega), un_id (by omega) (by omega), un_id (by omega) (by omega), Int.natCast_add, Int.natCast_mul, Int.natCast_mul, Int.natCast_mul, Int.natCast_mul, Int.natCast_sub hT]
    rfl
  unfold mxC
  rw [e1, mxD_nat A B T hA hB hT]
  have h5 : X * (A * (65535 - T)) + Y * (B * T) ≤ 562924184010750 := by omega
  generalize X * (A * (65535 - T)) + Y * (B * T) = N at *
  generalize A * (65535 - T) + B * T = D at *
  rw [dvi_rd (by omega) (by omega) (by omega), e, e]
theorem al_nat (A B T : Nat) (hA : A ≤ 65535) (hB : B ≤ 65535) (hT : T ≤ 65535) : dvi (mxD (A : Int) (B : Int) (T : Int)) 65535 = ((PX.rd (A * (65535 - T) + B * T) 65535 : Nat) : Int) := by
  have e : ∀ n : Nat, ((n : Int)).toNat = n := fun n => by omega
  have h1 : A * (65535 - T) ≤ 65535 * 65535 := Nat.mul_le_mul hA (by omega)
  have h2 : B * T ≤ 65535 * 65535 := Nat.mul_le_mul hB hT
  rw [mxD_nat A B T hA hB hT]
  have h3 : A * (65535 - T) + B * T ≤ 8589672450 := by omega
  generalize A * (65535 - T) + B * T = D at *
  rw [dvi_rd (by omega) (by omega) (by omega), e]
  rfl
/-- what the law says of a mix of two pixels that are not clear. -/
structure MixOk (p q : Px) (t : Int) : Prop where
  first : p.mix q 0 = p
  last : p.mix q 65535 = q
  same : p.mix p t = p
  turn : q.mix p (65535 - t) = p.mix q t
  vld : (p.mix q t).vld = true
  btw : p.mix q t = ⟨0, 0, 0, 0⟩ ∨ (((p.r ≤ (p.mix q t).r ∧ (p.mix q t).r ≤ q.r) ∨ (q.r ≤ (p.mix q t).r ∧ (p.mix q t).r ≤ p.r)) ∧ ((p.g ≤ (p.mix q t).g ∧ (p.mix q t).g ≤ q.g) ∨ (q.g ≤ (p.mix q t).g ∧ (p.mix q t).g ≤ p.g)) ∧
    ((p.b ≤ (p.mix q t).b ∧ (p.mix q t).b ≤ q.b) ∨ (q.b ≤ (p.mix q t).b ∧ (p.mix q t).b ≤ p.b)) ∧ ((p.a ≤ (p.mix q t).a ∧ (p.mix q t).a ≤ q.a) ∨ (q.a ≤ (p.mix q t).a ∧ (p.mix q t).a ≤ p.a)))
/-- Mix in whole numbers. -/
def pn (R G B A : Nat) : Px := ⟨(R : Int), (G : Int), (B : Int), (A : Int)⟩
def mixN (R G B A X Y Z V T : Nat) : Px :=
  if PX.rd (A * (65535 - T) + V * T) 65535 = 0 then ⟨0, 0, 0, 0⟩ else
    pn (PX.rd (R * (A * (65535 - T)) + X * (V * T)) (A * (65535 - T) + V * T)) (PX.rd (G * (A * (65535 - T)) + Y * (V * T)) (A * (65535 - T) + V * T)) (PX.rd (B * (A * (65535 - T)) + Z * (V * T)) (A * (65535 - T) + V * T)) (PX.rd (A * (65535 - T) + V * T) 65535)
theorem rd_pos {D : Nat} (h : PX.rd D 65535 ≠ 0) : 0 < D := by
  rcases Nat.eq_zero_or_pos D with h0 | h0
  · subst h0
    exact absurd (show PX.rd 0 65535 = 0 by decide) h
  · exact h0
theorem mix_nat (R G B A X Y Z V T : Nat) (h1 : R ≤ 65535) (h2 : G ≤ 65535) (h3 : B ≤ 65535) (h4 : A ≤ 65535) (h5 : X ≤ 65535) (h6 : Y ≤ 65535) (h7 : Z ≤ 65535) (h8 : V ≤ 65535) (h9 : T ≤ 65535) :
    (pn R G B A).mix (pn X Y Z V) (T : Int) = mixN R G B A X Y Z V T := by
  unfold Px.mix mixN pn
  dsimp only
  rw [al_nat A V T h4 h8 h9]
  by_cases h0 : PX.rd (A * (65535 - T) + V * T) 65535 = 0
  · rw [if_pos h0, if_pos (by rw [h0]; rfl)]
  · rw [if_neg h0, if_neg (by omega)]
    have hD := rd_pos h0
    rw [mxC_nat R X A V T h1 h5 h4 h8 h9 hD, mxC_nat G Y A V T h2 h6 h4 h8 h9 hD, mxC_nat B Z A V T h3 h7 h4 h8 h9 hD]
theorem rd_id {A : Nat} (hA : A ≤ 65535) : PX.rd (A * 65535) 65535 = A := PX.rd_mul A (by omega)
theorem mixOk_nat (R G B A X Y Z V T : Nat) (h1 : R ≤ 65535) (h2 : G ≤ 65535) (h3 : B ≤ 65535) (h4 : A ≤ 65535) (h5 : X ≤ 65535) (h6 : Y ≤ 65535) (h7 : Z ≤ 65535) (h8 : V ≤ 65535) (h9 : T ≤ 65535) (hA : 0 < A) (hV : 0 < V) :
    MixOk (pn R G B A) (pn X Y Z V) (T : Int) := by
  have em := mix_nat R G B A X Y Z V T h1 h2 h3 h4 h5 h6 h7 h8 h9
  refine ⟨?_, ?_, ?_, ?_, ?_, ?_⟩
  · have e0 := mix_nat R G B A X Y Z V 0 h1 h2 h3 h4 h5 h6 h7 h8 (by omega)
    rw [show ((0 : Nat) : Int) = 0 by omega] at e0
    rw [e0]
    unfold mixN
    rw [show A * (65535 - 0) + V * 0 = A * 65535 by rw [Nat.mul_zero, Nat.add_zero, Nat.sub_zero], rd_id h4, if_neg (by omega), Nat.mul_zero, Nat.mul_zero, Nat.mul_zero, Nat.mul_zero, Nat.add_zero, Nat.add_zero, Nat.add_zero, Nat.sub_zero, PX.rd_mul _ (by omega), PX.rd_mul _ (by omega), PX.rd_mul _ (by omega)]
  · have e0 := mix_nat R G B A X Y Z V 65535 h1 h2 h3 h4 h5 h6 h7 h8 (by omega)
    rw [show ((65535 : Nat) : Int) = 65535 by omega] at e0
    rw [e0]
    unfold mixN
    rw [show A * (65535 - 65535) + V * 65535 = V * 65535 by rw [Nat.sub_self, Nat.mul_zero, Nat.zero_add], rd_id h8, if_neg (by omega), Nat.sub_self, Nat.mul_zero, Nat.mul_zero, Nat.mul_zero, Nat.mul_zero, Nat.zero_add, Nat.zero_add, Nat.zero_add, PX.rd_mul _ (by omega), PX.rd_mul _ (by omega), PX.rd_mul _ (by omega)]
  · rw [mix_nat R G B A R G B A T h1 h2 h3 h4 h1 h2 h3 h4 h9]
    unfold mixN
    have hs : A * (65535 - T) + A * T = A * 65535 := by rw [← Nat.mul_add]; congr 1; omega
    rw [hs, ← Nat.mul_add R, ← Nat.mul_add G, ← Nat.mul_add B, hs, rd_id h4, if_neg (by omega), PX.rd_mul _ (by omega), PX.rd_mul _ (by omega), PX.rd_mul _ (by omega)]
  · rw [em]
    have e0 := mix_nat X Y Z V R G B A (65535 - T) h5 h6 h7 h8 h1 h2 h3 h4 (by omega)
    rw [show ((65535 - T : Nat) : Int) = 65535 - (T : Int) by omega] at e0
    rw [e0]
    unfold mixN
    rw [show 65535 - (65535 - T) = T by omega, Nat.add_comm (V * T), Nat.add_comm (X * (V * T)), Nat.add_comm (Y * (V * T)), Nat.add_comm (Z * (V * T))]
  · rw [em]
    unfold mixN
    split
    · rfl
    · rename_i h0
      have hD := rd_pos h0
      have b1 := (PX.mean_between (x := R) (y := X) (m := A * (65535 - T)) (n := V * T) rfl hD).2
      have b2 := (PX.mean_between (x := G) (y := Y) (m := A * (65535 - T)) (n := V * T) rfl hD).2
      have b3 := (PX.mean_between (x := B) (y := Z) (m := A * (65535 - T)) (n := V * T) rfl hD).2
      have b4 := (PX.mean_between (x := A) (y := V) (m := 65535 - T) (n := T) (D := 65535) (by omega) (by omega)).2
      unfold Px.vld pn
      rw [same_iff]
      unfold Px.lim
      dsimp only
      rw [un_id (by omega) (by omega), un_id (by omega) (by omega), un_id (by omega) (by omega), un_id (by omega) (by omega)]
  · rw [em]
    unfold mixN
    split
    · exact Or.inl rfl
    · rename_i h0
      have hD := rd_pos h0
      have b1 := (PX.mean_between (x := R) (y := X) (m := A * (65535 - T)) (n := V * T) rfl hD).2
      have b2 := (PX.mean_between (x := G) (y := Y) (m := A * (65535 - T)) (n := V * T) rfl hD).2
      have b3 := (PX.mean_between (x := B) (y := Z) (m := A * (65535 - T)) (n := V * T) rfl hD).2
      have b4 := (PX.mean_between (x := A) (y := V) (m := 65535 - T) (n := T) (D := 65535) (by omega) (by omega)).2
      refine Or.inr ?_
      unfold pn
      dsimp only
      generalize PX.rd (R * (A * (65535 - T)) + X * (V * T)) (A * (65535 - T) + V * T) = q1 at *
      generalize PX.rd (G * (A * (65535 - T)) + Y * (V * T)) (A * (65535 - T) + V * T) = q2 at *
      generalize PX.rd (B * (A * (65535 - T)) + Z * (V * T)) (A * (65535 - T) + V * T) = q3 at *
      generalize PX.rd (A * (65535 - T) + V * T) 65535 = q4 at *
      refine ⟨?_, ?_, ?_, ?_⟩ <;> omega
theorem mixOk (p q : Px) (t : Int) (hp : p.vld = true) (hq : q.vld = true) (ht : 0 ≤ t) (ht' : t ≤ 65535) (ha : p.a ≠ 0) (hv : q.a ≠ 0) : MixOk p q t := by
  obtain ⟨r, g, b, a⟩ := p
  obtain ⟨x, y, z, v⟩ := q
  unfold Px.vld at hp hq
  rw [same_iff] at hp hq
  unfold Px.lim at hp hq
  dsimp only at hp hq ha hv
  simp only [Px.mk.injEq] at hp hq
  obtain ⟨p1, p2, p3, p4⟩ := hp
  obtain ⟨q1, q2, q3, q4⟩ := hq
  have l1 := un_lo r; have L1 := un_hi r; have l2 := un_lo g; have L2 := un_hi g; have l3 := un_lo b; have L3 := un_hi b; have l4 := un_lo a; have L4 := un_hi a
  have l5 := un_lo x; have L5 := un_hi x; have l6 := un_lo y; have L6 := un_hi y; have l7 := un_lo z; have L7 := un_hi z; have l8 := un_lo v; have L8 := un_hi v
  rw [← p1] at l1 L1; rw [← p2] at l2 L2; rw [← p3] at l3 L3; rw [← p4] at l4 L4
  rw [← q1] at l5 L5; rw [← q2] at l6 L6; rw [← q3] at l7 L7; rw [← q4] at l8 L8
  clear p1 p2 p3 p4 q1 q2 q3 q4
  obtain ⟨R, rfl⟩ := Int.eq_ofNat_of_zero_le l1
  obtain ⟨G, rfl⟩ := Int.eq_ofNat_of_zero_le l2
  obtain ⟨B, rfl⟩ := Int.eq_ofNat_of_zero_le l3
  obtain ⟨A, rfl⟩ := Int.eq_ofNat_of_zero_le l4
  obtain ⟨X, rfl⟩ := Int.eq_ofNat_of_zero_le l5
  obtain ⟨Y, rfl⟩ := Int.eq_ofNat_of_zero_le l6
  obtain ⟨Z, rfl⟩ := Int.eq_ofNat_of_zero_le l7
  obtain ⟨V, rfl⟩ := Int.eq_ofNat_of_zero_le l8
  obtain ⟨T, rfl⟩ := Int.eq_ofNat_of_zero_le ht
  exact mixOk_nat R G B A X Y Z V T (by omega) (by omega) (by omega) (by omega) (by omega) (by omega) (by omega) (by omega) (by omega) (by omega) (by omega)

end Go.Proofs.YtmekcgbljpeglaaDoor
