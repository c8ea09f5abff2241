import Derived.Test.YtmekcgbljpeglaaDoorA1
import Derived.Test.YtmekcgbljpeglaaDoorU1
namespace Go.Proofs.YtmekcgbljpeglaaDoor
open Go.RowKit
set_option maxHeartbeats 400000
set_option linter.unusedVariables false

/-- the string of the bytes. -/
abbrev mkS (l : List UInt8) : ByteArray := ⟨l.toArray⟩
theorem mkS_size (l : List UInt8) : (mkS l).size = l.length := rfl
theorem mkS_data (l : List UInt8) : (mkS l).data.toList = l := by simp
theorem mkS_toList (s : ByteArray) : mkS s.data.toList = s := by
  apply ByteArray.ext
  simp
theorem mkS_append (a b : List UInt8) : mkS a ++ mkS b = mkS (a ++ b) := by
  apply ByteArray.ext
  simp [mkS, ByteArray.data_append]
theorem mkS_cutN (l : List UInt8) (a q : Nat) : (mkS l).extract a q = mkS ((l.drop a).take (q - a)) := by
  apply ByteArray.ext
  simp [mkS, ByteArray.data_extract, List.extract_toArray, List.extract_eq_take_drop]
theorem mkS_inj {a b : List UInt8} (h : mkS a = mkS b) : a = b := by
  have h2 : (mkS a).data.toList = (mkS b).data.toList := by rw [h]
  rwa [mkS_data, mkS_data] at h2
theorem mkS_ne {a b : List UInt8} (h : a ≠ b) : mkS a ≠ mkS b := fun h2 => h (mkS_inj h2)
theorem getS (l : List UInt8) (i : Nat) (h : i < l.length) : (mkS l)[i]'h = l[i] := rfl
/-- a digit, and two digits. -/
def dgt (k : Nat) : UInt8 := UInt8.ofNat (if k < 10 then 48 + k else 87 + k)
def hx2 (n : Nat) : List UInt8 := [dgt (n / 16), dgt (n % 16)]
def t8 (v : Int) : Nat := (to8 v).toNat
def Px.txt (p : Px) : List UInt8 := 35 :: (hx2 (t8 p.r) ++ (hx2 (t8 p.g) ++ (hx2 (t8 p.b) ++ hx2 (t8 p.a))))
theorem to8_bd (v : Int) : 0 ≤ to8 v ∧ to8 v ≤ 255 := by
  have h1 := un_lo v; have h2 := un_hi v
  unfold to8
  rw [dvi_rd h1 (by omega) (by omega)]
  have := PX.to8_le (v := (un v).toNat) (by omega)
  unfold PX.to8 at this
  simp
  omega
theorem t8_lt (v : Int) : t8 v < 256 := by have := to8_bd v; unfold t8; omega
theorem t8_eq (v : Int) : to8 v = (t8 v : Int) := by have := to8_bd v; unfold t8; omega
theorem t8_px (v : Int) : t8 v = PX.to8 (un v).toNat := by
  have h1 := un_lo v; have h2 := un_hi v
  unfold t8 to8
  rw [dvi_rd h1 (by omega) (by omega)]
  rfl
theorem dgt_val : ∀ k : Fin 16, (dgt k.val).toNat = if k.val < 10 then 48 + k.val else 87 + k.val := by decide +kernel
theorem hexv_dgt (k : Nat) (h : k < 16) : hexv (dgt k).toNat = some k := by
  have := dgt_val ⟨k, h⟩
  simp only at this
  rw [this]
  unfold hexv
  split <;> (repeat' split) <;> first | (congr 1; omega) | omega
/-- what the digits behind the sign stand for: eight digits, or none. -/
def compl (l : List UInt8) : List UInt8 :=
  match l with
  | [r, g, b] => [r, r, g, g, b, b, 102, 102]
  | l => if l.length = 6 then l ++ [102, 102] else if l.length = 8 then l else []
def hexO (l : List UInt8) : Option Nat := if l.length = 0 then none else hexs 0 l
def pxOf (n : Nat) : Px := ⟨fr8 ((n / 16777216 % 256 : Nat) : Int), fr8 ((n / 65536 % 256 : Nat) : Int), fr8 ((n / 256 % 256 : Nat) : Int), fr8 ((n % 256 : Nat) : Int)⟩
def parseF (l : List UInt8) : Px × Int :=
  if l.head? = some 35 then
    match hexO (compl l.tail) with
    | some n => (pxOf n, 0)
    | none => (⟨0, 0, 0, 0⟩, 4)
  else (⟨0, 0, 0, 0⟩, 4)
theorem compl_len (l : List UInt8) : (compl l).length = 0 ∨ (compl l).length = 8 := by
  unfold compl
  split
  · exact Or.inr rfl
  · split
    · right; simp; omega
    · split
      · right; assumption
      · left; rfl
theorem hexs_bd : ∀ (l : List UInt8) (acc n : Nat), hexs acc l = some n → n < (acc + 1) * 16 ^ l.length
  | [], acc, n, h => by injection h with h; simp; omega
  | c :: l, acc, n, h => by
    unfold hexs at h
    cases hd : hexv c.toNat with
    | none => rw [hd] at h; cases h
    | some d =>
      rw [hd] at h
      have h1 := hexs_bd l _ _ h
      have h2 := hexv_lt hd
      have h3 : (acc * 16 + d + 1) * 16 ^ l.length ≤ ((acc + 1) * 16) * 16 ^ l.length := Nat.mul_le_mul_right _ (by omega)
      rw [List.length_cons, Nat.pow_succ, Nat.mul_comm (16 ^ l.length) 16, ← Nat.mul_assoc]
      omega

end Go.Proofs.YtmekcgbljpeglaaDoor
