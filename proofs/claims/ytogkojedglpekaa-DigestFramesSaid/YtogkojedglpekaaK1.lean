namespace Go.Proofs.Ytogkojedglpekaa
set_option maxHeartbeats 400000
set_option linter.unusedVariables false

/-- one shift of the register. -/
def sh1 (c : Nat) : Nat := if c % 2 = 1 then c / 2 ^^^ 3988292384 else c / 2
def shN : Nat → Nat → Nat
  | 0, c => c
  | k + 1, c => shN k (sh1 c)
abbrev sh8 (c : Nat) : Nat := shN 8 c
theorem xor32 {a b : Nat} (ha : a < 4294967296) (hb : b < 4294967296) : a ^^^ b < 4294967296 := Nat.xor_lt_two_pow (n := 32) ha hb
theorem xor8 {a b : Nat} (ha : a < 256) (hb : b < 256) : a ^^^ b < 256 := Nat.xor_lt_two_pow (n := 8) ha hb
theorem sh1_lt {c : Nat} (h : c < 4294967296) : sh1 c < 4294967296 := by
  unfold sh1
  split
  · exact xor32 (by omega) (by omega)
  · omega
theorem shN_lt : ∀ (k c : Nat), c < 4294967296 → shN k c < 4294967296
  | 0, c, h => h
  | k + 1, c, h => shN_lt k (sh1 c) (sh1_lt h)
theorem xor_mod2 (a b : Nat) : (a ^^^ b) % 2 = (a % 2 + b % 2) % 2 := by
  have h : (a ^^^ b).testBit 0 = (a.testBit 0 ^^ b.testBit 0) := Nat.testBit_xor ..
  simp only [Nat.testBit_zero] at h
  rcases Nat.mod_two_eq_zero_or_one a with ha | ha <;> rcases Nat.mod_two_eq_zero_or_one b with hb | hb <;> rcases Nat.mod_two_eq_zero_or_one (a ^^^ b) with hc | hc <;> simp [ha, hb, hc] at h ⊢
theorem xor_div2 (a b : Nat) : (a ^^^ b) / 2 = a / 2 ^^^ b / 2 := by
  apply Nat.eq_of_testBit_eq
  intro i
  simp [Nat.testBit_div_two, Nat.testBit_xor]
theorem sh1_xor (a b : Nat) : sh1 (a ^^^ b) = sh1 a ^^^ sh1 b := by
  unfold sh1
  rw [xor_mod2, xor_div2]
  rcases Nat.mod_two_eq_zero_or_one a with ha | ha <;> rcases Nat.mod_two_eq_zero_or_one b with hb | hb <;> simp [ha, hb]
  · rw [Nat.xor_assoc]
  · rw [Nat.xor_assoc, Nat.xor_assoc, Nat.xor_comm 3988292384]
  · rw [Nat.xor_assoc, Nat.xor_comm (b / 2) 3988292384, ← Nat.xor_assoc 3988292384, Nat.xor_self, Nat.zero_xor]
theorem shN_xor : ∀ (k a b : Nat), shN k (a ^^^ b) = shN k a ^^^ shN k b
  | 0, a, b => rfl
  | k + 1, a, b => by
    show shN k (sh1 (a ^^^ b)) = _
    rw [sh1_xor, shN_xor k]
    rfl
theorem sh1_even (h : Nat) : sh1 (2 * h) = h := by unfold sh1; rw [if_neg (by omega)]; omega
theorem sh8_high (h : Nat) : sh8 (256 * h) = h := by
  show sh1 (sh1 (sh1 (sh1 (sh1 (sh1 (sh1 (sh1 (256 * h)))))))) = h
  rw [show 256 * h = 2 * (2 * (2 * (2 * (2 * (2 * (2 * (2 * h))))))) by omega]
  simp only [sh1_even]
theorem split8 (c : Nat) : 256 * (c / 256) ^^^ c % 256 = c := by
  have h := Nat.two_pow_add_eq_or_of_lt (i := 8) (b := c % 256) (by omega) (c / 256)
  apply Nat.eq_of_testBit_eq
  intro i
  rw [show 256 = 2 ^ 8 by rfl, Nat.testBit_xor, Nat.testBit_two_pow_mul, Nat.testBit_mod_two_pow, Nat.testBit_div_two_pow]
  by_cases hi : 8 ≤ i
  · rw [show i - 8 + 8 = i by omega]; simp [hi, Nat.not_lt.2 hi]
  · simp [hi, Nat.lt_of_not_le hi]
/-- eight shifts at once. -/
theorem step8 (c b : Nat) : sh8 (c ^^^ b) = c / 256 ^^^ sh8 (c % 256 ^^^ b) := by
  conv => lhs; rw [← split8 c, Nat.xor_assoc]
  show shN 8 (256 * (c / 256) ^^^ (c % 256 ^^^ b)) = _
  rw [shN_xor, show shN 8 (256 * (c / 256)) = c / 256 from sh8_high _]
/-- the register behind the bytes. -/
def reg (c : Nat) (l : List UInt8) : Nat := l.foldl (fun c b => sh8 (c ^^^ b.toNat)) c
theorem reg_append (c : Nat) (a b : List UInt8) : reg c (a ++ b) = reg (reg c a) b := List.foldl_append
theorem reg_cons (c : Nat) (b : UInt8) (l : List UInt8) : reg c (b :: l) = reg (sh8 (c ^^^ b.toNat)) l := rfl
theorem u8_lt32 (b : UInt8) : b.toNat < 4294967296 := by have := b.toNat_lt; omega
theorem reg_lt : ∀ (l : List UInt8) (c : Nat), c < 4294967296 → reg c l < 4294967296
  | [], c, h => h
  | b :: l, c, h => reg_lt l _ (shN_lt 8 _ (xor32 h (u8_lt32 b)))
def crc (l : List UInt8) : Nat := 4294967295 - reg 4294967295 l
theorem crc_lt (l : List UInt8) : crc l < 4294967296 := by unfold crc; omega
theorem reg_take (c : Nat) (l : List UInt8) (k : Nat) (h : k < l.length) : reg c (l.take (k + 1)) = sh8 (reg c (l.take k) ^^^ l[k].toNat) := by
  rw [List.take_succ_eq_append_getElem h, reg_append]
  rfl
theorem not32 (y : Nat) (hy : y < 4294967296) : y ^^^ 4294967295 = 4294967295 - y := by
  have h := BitVec.xor_allOnes (x := BitVec.ofNat 32 y)
  have h2 := congrArg BitVec.toNat h
  rw [BitVec.toNat_xor, BitVec.toNat_not, BitVec.toNat_ofNat, Nat.mod_eq_of_lt (by omega)] at h2
  have e : (BitVec.allOnes 32).toNat = 4294967295 := by decide
  rw [e] at h2
  omega
/-- CRC is linear. -/
theorem reg_xor : ∀ (s t : List UInt8) (a b : Nat), s.length = t.length → reg (a ^^^ b) (List.zipWith (fun x y => x ^^^ y) s t) = reg a s ^^^ reg b t
  | [], [], a, b, _ => rfl
  | x :: s, y :: t, a, b, h => by
    rw [List.zipWith_cons_cons, reg_cons, reg_cons, reg_cons, ← reg_xor s t _ _ (by simpa using h), ← shN_xor]
    congr 2
    rw [UInt8.toNat_xor, Nat.xor_assoc, Nat.xor_assoc, ← Nat.xor_assoc b, Nat.xor_comm b, Nat.xor_assoc]
/-- shifts can be undone. -/
theorem sh1_inj {a b : Nat} (ha : a < 4294967296) (hb : b < 4294967296) (h : sh1 a = sh1 b) : a = b := by
  have key : sh1 (a ^^^ b) = 0 := by rw [sh1_xor, h, Nat.xor_self]
  have hl := xor32 ha hb
  have hz : a ^^^ b = 0 := by
    unfold sh1 at key
    split at key
    · exfalso
      have h2 : (a ^^^ b) / 2 = 3988292384 := by
        have := congrArg (· ^^^ 3988292384) key
        simpa [Nat.xor_assoc] using this
      omega
    · omega
  have := congrArg (· ^^^ b) hz
  simpa [Nat.xor_assoc] using this
theorem shN_inj : ∀ (k : Nat) {a b : Nat}, a < 4294967296 → b < 4294967296 → shN k a = shN k b → a = b
  | 0, a, b, _, _, h => h
  | k + 1, a, b, ha, hb, h => sh1_inj ha hb (shN_inj k (sh1_lt ha) (sh1_lt hb) h)
theorem xor_right {a b c : Nat} (h : a ^^^ c = b ^^^ c) : a = b := by
  have := congrArg (· ^^^ c) h
  simpa [Nat.xor_assoc] using this
theorem xor_left {a b c : Nat} (h : c ^^^ a = c ^^^ b) : a = b := xor_right (c := c) (by rw [Nat.xor_comm a, Nat.xor_comm b, h])
theorem reg_inj : ∀ (l : List UInt8) {a b : Nat}, a < 4294967296 → b < 4294967296 → reg a l = reg b l → a = b
  | [], a, b, _, _, h => h
  | x :: l, a, b, ha, hb, h => by
    have h2 := reg_inj l (shN_lt 8 _ (xor32 ha (u8_lt32 x))) (shN_lt 8 _ (xor32 hb (u8_lt32 x))) h
    exact xor_right (shN_inj 8 (xor32 ha (u8_lt32 x)) (xor32 hb (u8_lt32 x)) h2)
/-- one byte that is replaced is told. -/
theorem crc_told (p q : List UInt8) {x y : UInt8} (h : x ≠ y) : crc (p ++ x :: q) ≠ crc (p ++ y :: q) := by
  intro he
  have h0 : (4294967295 : Nat) < 4294967296 := by omega
  have hr : reg 4294967295 (p ++ x :: q) = reg 4294967295 (p ++ y :: q) := by
    have h1 := reg_lt (p ++ x :: q) _ h0
    have h2 := reg_lt (p ++ y :: q) _ h0
    unfold crc at he
    omega
  rw [reg_append, reg_append, reg_cons, reg_cons] at hr
  have hp := reg_lt p _ h0
  have h3 := reg_inj q (shN_lt 8 _ (xor32 hp (u8_lt32 x))) (shN_lt 8 _ (xor32 hp (u8_lt32 y))) hr
  have h4 := xor_left (shN_inj 8 (xor32 hp (u8_lt32 x)) (xor32 hp (u8_lt32 y)) h3)
  exact h (UInt8.toNat_inj.1 h4)
theorem crc_linear (s t : List UInt8) (h : s.length = t.length) : crc s ^^^ crc t ^^^ crc (List.zipWith (fun x y => x ^^^ y) s t) ^^^ crc (List.replicate s.length 0) = 0 := by
  have h0 : (4294967295 : Nat) < 4294967296 := by omega
  have e : ∀ l : List UInt8, crc l = reg 4294967295 l ^^^ 4294967295 := fun l => by rw [not32 _ (reg_lt l _ h0)]; rfl
  have hz := reg_xor (List.zipWith (fun x y => x ^^^ y) s t) (List.replicate s.length 0) 0 4294967295 (by simp [h])
  have hx := reg_xor s t 4294967295 4294967295 h
  rw [Nat.xor_self] at hx
  have hs : List.zipWith (fun x y => x ^^^ y) (List.zipWith (fun x y => x ^^^ y) s t) (List.replicate s.length (0 : UInt8)) = List.zipWith (fun x y => x ^^^ y) s t := by
    apply List.ext_getElem
    · simp [h]
    · intro i h1 h2
      simp
  rw [hs, Nat.zero_xor, hx] at hz
  rw [e, e, e, e, hz]
  generalize reg 4294967295 s = a
  generalize reg 4294967295 t = b
  generalize reg 4294967295 (List.replicate s.length 0) = c
  apply Nat.eq_of_testBit_eq
  intro i
  simp only [Nat.testBit_xor, Nat.zero_testBit]
  cases a.testBit i <;> cases b.testBit i <;> cases c.testBit i <;> cases (4294967295 : Nat).testBit i <;> rfl

end Go.Proofs.Ytogkojedglpekaa
