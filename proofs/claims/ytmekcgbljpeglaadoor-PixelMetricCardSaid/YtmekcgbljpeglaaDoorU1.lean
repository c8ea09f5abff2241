import Derived.Test.YtmekcgbljpeglaaDoorProg
import Derived.WalkKit
import Derived.WalkLawsBesides
import Derived.Outline
import Derived.Lib.Walk
import Derived.Deep.QuietTactic
import Derived.BigQuiet
import Derived.RowKit3
import Derived.Deep.LoopGhost
import Derived.Laws.Rows
import Derived.Laws.Tables
import Derived.Laws.CopyOwn
import Derived.Lib.Hide
import Derived.Handy
import Derived.Deep.Onto
import Derived.Lib.Strings
import Derived.Lib.ConvBytes
import Derived.Laws.Strings3
import Derived.Laws.Closers25
import Derived.Laws.Closers25b
import Derived.BigCall
import Derived.BigGuard
import Derived.Laws.BitsAllLaws
import Derived.Test.YtmekcgbljpeglaaDoorA1
namespace Go.Proofs.YtmekcgbljpeglaaDoor
open Go.RowKit
set_option maxHeartbeats 400000
set_option linter.unusedVariables false

/-- the value of a hexadecimal digit. -/
def hexv (c : Nat) : Option Nat := if 48 ≤ c ∧ c ≤ 57 then some (c - 48) else if 97 ≤ c ∧ c ≤ 102 then some (c - 87) else if 65 ≤ c ∧ c ≤ 70 then some (c - 55) else none
/-- the number that hexadecimal digits stand for, behind the number acc. -/
def hexs : Nat → List UInt8 → Option Nat
  | acc, [] => some acc
  | acc, c :: l => match hexv c.toNat with
    | some d => hexs (acc * 16 + d) l
    | none => none
def hexOut : Option Nat → Value
  | some n => .tuple #[.int .u64 (n : Int), .nilIface]
  | none => .tuple #[.int .u64 0, .iface 62 (.int .i64 2)]
theorem or32 : ∀ c : Fin 256, (c.val ||| 32) = if c.val / 32 % 2 = 1 then c.val else c.val + 32 := by decide +kernel
theorem or32' (c : Nat) (h : c < 256) : (c ||| 32) = if c / 32 % 2 = 1 then c else c + 32 := or32 ⟨c, h⟩
theorem hexv_lt {c d : Nat} (h : hexv c = some d) : d < 16 := by
  unfold hexv at h
  (repeat' split at h) <;> first | (cases h; done) | (injection h; omega)
theorem k64 (c : Int) (w : World) : Calls Tryd.prog 64 #[.int .u8 c] w fun e w' => e = .returned (.int .u8 (bits .or .u8 c 32)) ∧ w' = w := by
  go_enter Tryd.func64, Tryd.ntmps64
  go_wp2
  go_ret
  exact ⟨rfl, rfl⟩
set_option maxRecDepth 100000 in
theorem k60_empty0 (w : World) : Calls Tryd.prog 60 #[.string ⟨#[]⟩, .int .i64 16, .int .i64 32] w fun e w' => e = .returned (hexOut none) ∧ w' = w := by
  go_enter Tryd.func60, Tryd.ntmps60
  go_wp2
  go_ret2
  exact ⟨rfl, rfl⟩
theorem k60_empty (t : ByteArray) (he : t.size = 0) (w : World) : Calls Tryd.prog 60 #[.string t, .int .i64 16, .int .i64 32] w fun e w' => e = .returned (hexOut none) ∧ w' = w := by
  have hs : t = ⟨#[]⟩ := by
    apply ByteArray.ext
    exact Array.eq_empty_of_size_eq_zero he
  subst hs
  exact k60_empty0 w
set_option maxHeartbeats 32000000 in
set_option maxRecDepth 100000 in
theorem k60 (t : ByteArray) (hne : t.size ≠ 0) (hmax : t.size ≤ 8) (w : World) :
    Calls Tryd.prog 60 #[.string t, .int .i64 16, .int .i64 32] w fun e w' => e = .returned (hexOut (hexs 0 t.data.toList)) ∧ w' = Lib.bytesWorld w 5 t := by
  have hemp : t.toList.isEmpty = false := by
    rw [← decide_eq_emptyBytes]
    exact decide_eq_false (fun h => hne (by rw [h]; rfl))
  have hcv := Lib.run_convert_string_bytes (P := Tryd.prog) w 9 52 5 t (u := .string) Tryd.underlying9 Tryd.underlying52 Tryd.underlying5
  have hB : ∀ j, j < t.size → (Lib.bytesWorld w 5 t).cell? ⟨w.heap.size, j, none⟩ = some (.int .u8 (t.data.toList.getD j 0).toNat) := fun j hj => Lib.bytesWorld_cell w 5 t j hj
  obtain ⟨W1, hW1⟩ : ∃ W1, W1 = Lib.bytesWorld w 5 t := ⟨_, rfl⟩
  rw [← hW1] at hcv hB ⊢
  clear hW1
  obtain ⟨bs, hL⟩ : ∃ bs, bs = t.data.toList := ⟨_, rfl⟩
  have hLn : bs.length = t.size := by rw [hL, Lib.size_eq]
  rw [← hL] at hB ⊢
  clear hL
  have hmv : IntKind.u64.wrap (IntKind.u64.wrap 4294967296 - 1) = 4294967295 := by
    rw [IntKind.wrap_u64, IntKind.wrap_u64]
    decide
  go_enter Tryd.func60, Tryd.ntmps60
  go_wp2
  go_loop [12, 13, 101] (fun vu vn vi => ∃ (k acc : Nat) (a : Int), vu = .bool false ∧ vn = .int .u64 a ∧ vi = .int .i64 k ∧ k ≤ t.size ∧ Hid (a = (acc : Int) ∧ acc < 16 ^ k ∧ hexs 0 bs = hexs acc (bs.drop k)))
    (fun _ _ vi => t.size - (intOf vi).toNat)
  case atStart => exact ⟨0, 0, 0, rfl, rfl, rfl, by omega, rfl, by omega, rfl⟩
  case round =>
    obtain ⟨k, acc, a, rfl, rfl, rfl, hk, hh⟩ := hrel
    obtain ⟨ha, hacc, hdec⟩ := hh.out
    clear hh
    have a0 : 0 ≤ a := by omega
    by_cases hkn : k < t.size
    · have hc := hB k hkn
      have hdrop : bs.drop k = bs[k]'(by omega) :: bs.drop (k + 1) := List.drop_eq_getElem_cons (by omega)
      have hget : bs.getD k 0 = bs[k]'(by omega) := by simp [List.getD, List.getElem?_eq_getElem (show k < bs.length by omega)]
      rw [hdrop] at hdec
      rw [hget] at hc
      generalize bs[k]'(by omega) = c at hc hdec
      have hc256 : c.toNat < 256 := c.toNat_lt
      clear hB hdrop hget
      have hp : 16 ^ k ≤ 16 ^ 7 := Nat.pow_le_pow_right (by omega) (by omega)
      have hp1 : (16 : Nat) ^ (k + 1) = 16 ^ k * 16 := Nat.pow_succ _ _
      have a1 : a < 268435456 := by omega
      cases hd : hexv c.toNat with
      | some d =>
        have hd16 := hexv_lt hd
        have hF : hexs acc (c :: bs.drop (k + 1)) = hexs (acc * 16 + d) (bs.drop (k + 1)) := by show (match hexv c.toNat with | some d => _ | none => none) = _; rw [hd]
        have HN : Hid (a * 16 + (d : Int) = ((acc * 16 + d : Nat) : Int) ∧ acc * 16 + d < 16 ^ (k + 1) ∧ hexs 0 bs = hexs (acc * 16 + d) (bs.drop (k + 1))) := Lib.hid ⟨by omega, by omega, hdec.trans hF⟩
        have w1 : IntKind.u64.wrap (a * 16) = a * 16 := by rw [IntKind.wrap_u64]; omega
        have w2 : IntKind.u64.wrap (a * 16 + (d : Int)) = a * 16 + (d : Int) := by rw [IntKind.wrap_u64]; omega
        clear hF hdec ha hp hp1
        unfold hexv at hd
        by_cases hdig : 48 ≤ c.toNat ∧ c.toNat ≤ 57
        · rw [if_pos hdig] at hd
          have hd' : (c.toNat : Int) - 48 = (d : Int) := by injection hd; omega
          obtain ⟨hd0, hd1⟩ := hdig
          clear hd
          go_wp2
          refine ⟨⟨k + 1, acc * 16 + d, a * 16 + (d : Int), rfl, rfl, (by first | rfl | (congr 1; omega)), by omega, HN⟩, by simp [intOf]; omega⟩
        · rw [if_neg hdig] at hd
          have hl : 97 ≤ (if c.toNat / 32 % 2 = 1 then c.toNat else c.toNat + 32) ∧ (if c.toNat / 32 % 2 = 1 then c.toNat else c.toNat + 32) = d + 87 ∧ 58 ≤ c.toNat ∧ c.toNat ≠ 95 := by
            (repeat' split at hd) <;> first | (cases hd; done) | (injection hd with hd; split <;> omega)
          have hor := or32' c.toNat hc256
          have hle := u8_or_nat c.toNat 32 hc256 (by omega)
          rw [hor] at hle
          obtain ⟨hl0, hl1, hl2, hl3⟩ := hl
          rw [hl1] at hle hl0
          have c1 := fun w => k64 (c.toNat : Int) w
          have hle' : bits .or .u8 (c.toNat : Int) 32 = ((d + 87 : Nat) : Int) := hle
          rw [hle'] at c1
          obtain ⟨l, hl⟩ : ∃ l : Int, l = ((d + 87 : Nat) : Int) := ⟨_, rfl⟩
          rw [← hl] at c1
          have q1 : (97 : Int) ≤ l := by omega
          have q2 : l ≤ 122 := by omega
          have q3 : IntKind.u8.wrap (l - 97) = l - 97 := by rw [IntKind.wrap_u8']; omega
          have q4 : IntKind.u8.wrap (l - 97 + 10) = (d : Int) := by rw [IntKind.wrap_u8']; omega
          have q5 : decide ((c.toNat : Int) ≤ 57) = false := decide_eq_false (by omega)
          have q6 : (48 : Int) ≤ (c.toNat : Int) := by omega
          have q7 : ((c.toNat : Int) == 95) = false := by rw [beq_eq_false_iff_ne]; omega
          have L1 := Lib.hid c1
          clear hd hdig hor hle hle' hl c1 hl0 hl1 hl2 hl3
          go_wp2_with (go_at_call 64; (with_reducible refine (L1.out _).mono ?_); rintro e1 w1 ⟨rfl, rfl⟩)
          go_wp2
          refine ⟨⟨k + 1, acc * 16 + d, a * 16 + (d : Int), rfl, rfl, (by first | rfl | (congr 1; omega)), by omega, HN⟩, by simp [intOf]; omega⟩
      | none =>
        have hF : hexs acc (c :: bs.drop (k + 1)) = none := by show (match hexv c.toNat with | some d => _ | none => none) = _; rw [hd]
        rw [hF] at hdec
        clear hF ha hp hp1
        unfold hexv at hd
        have hnd : ¬ (48 ≤ c.toNat ∧ c.toNat ≤ 57) := by intro h; rw [if_pos h] at hd; cases hd
        have hna : ¬ (97 ≤ c.toNat ∧ c.toNat ≤ 102) := by intro h; rw [if_neg (by omega), if_pos h] at hd; cases hd
        have hnb : ¬ (65 ≤ c.toNat ∧ c.toNat ≤ 70) := by intro h; rw [if_neg (by omega), if_neg (by omega), if_pos h] at hd; cases hd
        clear hd
        have hor := or32' c.toNat hc256
        have hle := u8_or_nat c.toNat 32 hc256 (by omega)
        obtain ⟨n, hn⟩ : ∃ n : Nat, n = (if c.toNat / 32 % 2 = 1 then c.toNat else c.toNat + 32) := ⟨_, rfl⟩
        rw [hor, ← hn] at hle
        have hn' : ¬ (97 ≤ n ∧ n ≤ 102) := by rw [hn]; split <;> omega
        have hn256 : n < 256 := by rw [hn]; split <;> omega
        have hu : c.toNat = 95 → n = 127 := by intro h; rw [hn, h]; rfl
        have c1 := fun w => k64 (c.toNat : Int) w
        have hle' : bits .or .u8 (c.toNat : Int) 32 = (n : Int) := hle
        rw [hle'] at c1
        obtain ⟨l, hl⟩ : ∃ l : Int, l = (n : Int) := ⟨_, rfl⟩
        rw [← hl] at c1
        have L1 := Lib.hid c1
        clear hle hle' hor c1 hn
        have q5 : (48 ≤ (c.toNat : Int) ∧ decide ((c.toNat : Int) ≤ 57) = false) ∨ decide (48 ≤ (c.toNat : Int)) = false := by
          by_cases h : 48 ≤ c.toNat
          · exact Or.inl ⟨by omega, decide_eq_false (by omega)⟩
          · exact Or.inr (decide_eq_false (by omega))
        have q6 : decide (97 ≤ l) = false ∨ (97 ≤ l ∧ decide (l ≤ 122) = false) ∨ (97 ≤ l ∧ l ≤ 122 ∧ 103 ≤ l) := by
          by_cases h : 97 ≤ l
          · by_cases h2 : l ≤ 122
            · exact Or.inr (Or.inr ⟨h, h2, by omega⟩)
            · exact Or.inr (Or.inl ⟨h, decide_eq_false h2⟩)
          · exact Or.inl (decide_eq_false h)
        by_cases h95 : c.toNat = 95
        · have hc95 : ((c.toNat : Int) == 95) = true := by rw [h95]; rfl
          have hl127 : l = 127 := by rw [hl, hu h95]; rfl
          have q7 : decide ((c.toNat : Int) ≤ 57) = false := decide_eq_false (by omega)
          have q8 : 48 ≤ (c.toNat : Int) := by omega
          have q9 : decide (l ≤ 122) = false := decide_eq_false (by omega)
          have q10 : 97 ≤ l := by omega
          rw [h95] at L1 hc
          clear q5 q6 hnd hna hnb hn' hl hu h95 hl127 hc95 q7 q8
          go_wp2_with (go_at_call 64; (with_reducible refine (L1.out _).mono ?_); rintro e1 w1 ⟨rfl, rfl⟩)
          all_goals (try go_wp2)
          all_goals go_ret2
          all_goals first | exact ⟨rfl, rfl⟩ | exact ⟨by rw [hdec]; rfl, rfl⟩
        · have hc95 : ((c.toNat : Int) == 95) = false := by rw [beq_eq_false_iff_ne]; omega
          clear hnd hna hnb hn' hl hu h95
          rcases q5 with ⟨q51, q52⟩ | q52 <;> rcases q6 with q6 | ⟨q6, q61⟩ | ⟨q6, q61, q62⟩
          all_goals try have q3 : IntKind.u8.wrap (l - 97) = l - 97 := by rw [IntKind.wrap_u8']; omega
          all_goals try have q4 : IntKind.u8.wrap (l - 97 + 10) = l - 87 := by rw [IntKind.wrap_u8']; omega
          all_goals try have q9 : 16 ≤ l - 87 := by omega
          all_goals go_wp2_with (go_at_call 64; (with_reducible refine (L1.out _).mono ?_); rintro e1 w1 ⟨rfl, rfl⟩)
          all_goals (try go_wp2)
          all_goals go_ret2
          all_goals first | exact ⟨rfl, rfl⟩ | exact ⟨by rw [hdec]; rfl, rfl⟩
    · -- the bytes are at an end
      have hkk : k = t.size := by omega
      subst hkk
      have hF : hexs acc (bs.drop t.size) = some acc := by rw [List.drop_eq_nil_of_le (by omega)]; rfl
      rw [hF] at hdec
      subst ha
      clear hacc hF a0
      go_wp2
      go_ret2
      exact ⟨rfl, rfl⟩

end Go.Proofs.YtmekcgbljpeglaaDoor
