import Derived.Test.YtmekcgbljpeglaaDoorT1
import Derived.Test.YtmekcgbljpeglaaDoorS7
namespace Go.Proofs.YtmekcgbljpeglaaDoor
set_option maxHeartbeats 400000
set_option linter.unusedVariables false

theorem valD_some {c : UInt8} {d : Nat} (h : hexv c.toNat = some d) : valD c = (d : Int) := by unfold valD; rw [h]
theorem valD_none {c : UInt8} (h : hexv c.toNat = none) : valD c = -1 := by unfold valD; rw [h]
theorem valD_bd {c : UInt8} (h : hexv c.toNat ≠ none) : 0 ≤ valD c ∧ valD c ≤ 15 := by
  cases hd : hexv c.toNat with
  | none => exact absurd hd h
  | some d =>
    have := hexv_lt hd
    rw [valD_some hd]
    omega
theorem hexs_none : ∀ (l : List UInt8) (acc : Nat), (∃ c ∈ l, hexv c.toNat = none) → hexs acc l = none
  | [], acc, h => by obtain ⟨c, hc, _⟩ := h; cases hc
  | c :: l, acc, h => by
    unfold hexs
    cases hd : hexv c.toNat with
    | none => rfl
    | some d =>
      obtain ⟨x, hx, hn⟩ := h
      cases hx with
      | head => rw [hd] at hn; cases hn
      | tail _ hx => exact hexs_none l _ ⟨x, hx, hn⟩
theorem hexs_all (a b c d e f g h : UInt8) (hall : ∀ x ∈ [a, b, c, d, e, f, g, h], hexv x.toNat ≠ none) :
    ∃ n, hexs 0 [a, b, c, d, e, f, g, h] = some n ∧ ((n / 16777216 % 256 : Nat) : Int) = 16 * valD a + valD b ∧ ((n / 65536 % 256 : Nat) : Int) = 16 * valD c + valD d ∧ ((n / 256 % 256 : Nat) : Int) = 16 * valD e + valD f ∧ ((n % 256 : Nat) : Int) = 16 * valD g + valD h := by
  have get : ∀ x ∈ [a, b, c, d, e, f, g, h], ∃ d, hexv x.toNat = some d ∧ d < 16 := fun x hx => by
    cases hd : hexv x.toNat with
    | none => exact absurd hd (hall x hx)
    | some d => exact ⟨d, rfl, hexv_lt hd⟩
  obtain ⟨d0, e0, l0⟩ := get a (by simp)
  obtain ⟨d1, e1, l1⟩ := get b (by simp)
  obtain ⟨d2, e2, l2⟩ := get c (by simp)
  obtain ⟨d3, e3, l3⟩ := get d (by simp)
  obtain ⟨d4, e4, l4⟩ := get e (by simp)
  obtain ⟨d5, e5, l5⟩ := get f (by simp)
  obtain ⟨d6, e6, l6⟩ := get g (by simp)
  obtain ⟨d7, e7, l7⟩ := get h (by simp)
  refine ⟨(((((((0 * 16 + d0) * 16 + d1) * 16 + d2) * 16 + d3) * 16 + d4) * 16 + d5) * 16 + d6) * 16 + d7, ?_, ?_, ?_, ?_, ?_⟩
  · simp only [hexs, e0, e1, e2, e3, e4, e5, e6, e7]
  · rw [valD_some e0, valD_some e1]; omega
  · rw [valD_some e2, valD_some e3]; omega
  · rw [valD_some e4, valD_some e5]; omega
  · rw [valD_some e6, valD_some e7]; omega
theorem f102 : hexv (102 : UInt8).toNat ≠ none := by decide
theorem v102 : valD 102 = 15 := rfl
/-- a sign that is no digit. -/
theorem parse_none {t : List UInt8} (h : ∃ c ∈ t, hexv c.toNat = none) : parseF (35 :: t) = (⟨0, 0, 0, 0⟩, 4) := by
  have hO : hexO (compl t) = none := by
    unfold hexO
    split
    · rfl
    · refine hexs_none _ _ ?_
      obtain ⟨c, hc, hn⟩ := h
      refine ⟨c, ?_, hn⟩
      rename_i hne
      unfold compl at hne ⊢
      split at hne
      · simp at hc ⊢
        rcases hc with rfl | rfl | rfl <;> simp
      · split at hne
        · rename_i h6
          rw [if_pos h6]
          exact List.mem_append_left _ hc
        · split at hne
          · rename_i h6 h8
            rw [if_neg h6, if_pos h8]
            exact hc
          · exact absurd rfl hne
  show (match hexO (compl t) with | some n => (pxOf n, (0 : Int)) | none => (⟨0, 0, 0, 0⟩, 4)) = _
  rw [hO]
/-- eight digits, as they are. -/
def dig8 (y : List Int) : Px := ⟨fr8 (16 * y.getD 0 0 + y.getD 1 0), fr8 (16 * y.getD 2 0 + y.getD 3 0), fr8 (16 * y.getD 4 0 + y.getD 5 0), fr8 (16 * y.getD 6 0 + y.getD 7 0)⟩
theorem parse_some {t : List UInt8} (a b c d e f g h : UInt8) (hc : compl t = [a, b, c, d, e, f, g, h]) (hall : ∀ x ∈ [a, b, c, d, e, f, g, h], hexv x.toNat ≠ none) :
    parseF (35 :: t) = (dig8 ((compl t).map valD), 0) := by
  obtain ⟨n, h1, h2, h3, h4, h5⟩ := hexs_all a b c d e f g h hall
  have hO : hexO (compl t) = some n := by rw [hc]; exact h1
  show (match hexO (compl t) with | some n => (pxOf n, (0 : Int)) | none => (⟨0, 0, 0, 0⟩, 4)) = _
  rw [hO, hc]
  show (pxOf n, (0 : Int)) = (_, 0)
  unfold pxOf dig8
  rw [h2, h3, h4, h5]
  rfl
theorem list8 {l : List UInt8} (h : l.length = 8) : ∃ a b c d e f g i, l = [a, b, c, d, e, f, g, i] := by
  match l, h with
  | [a, b, c, d, e, f, g, i], _ => exact ⟨a, b, c, d, e, f, g, i, rfl⟩
theorem parse_good {t : List UInt8} (ht : t.length = 3 ∨ t.length = 6 ∨ t.length = 8) (hall : ∀ c ∈ t, hexv c.toNat ≠ none) : parseF (35 :: t) = (dig8 ((compl t).map valD), 0) ∧ (∀ y ∈ (compl t).map valD, 0 ≤ y ∧ y ≤ 15) ∧ ((compl t).map valD).length = 8 := by
  have hmem : ∀ x ∈ compl t, hexv x.toNat ≠ none := by
    intro x hx
    unfold compl at hx
    split at hx
    · simp only [List.mem_cons, List.not_mem_nil, or_false] at hx
      rcases hx with rfl | rfl | rfl | rfl | rfl | rfl | rfl | rfl
      all_goals first | exact f102 | exact hall _ (by simp)
    · split at hx
      · rcases List.mem_append.1 hx with h | h
        · exact hall x h
        · simp at h
          rw [h]
          exact f102
      · split at hx
        · exact hall x hx
        · cases hx
  have h8 : (compl t).length = 8 := by
    have h := compl_len t
    rcases h with h | h
    · exfalso
      unfold compl at h
      split at h
      · cases h
      · rename_i hne
        split at h
        · simp at h
        · split at h
          · omega
          · rename_i h1 h2
            rcases ht with h3 | h3 | h3
            · match t, h3 with
              | [x, y, z], _ => exact hne x y z rfl
            · exact h1 h3
            · exact h2 h3
    · exact h
  obtain ⟨a, b, c, d, e, f, g, i, hl⟩ := list8 h8
  refine ⟨parse_some a b c d e f g i hl (by rw [← hl]; exact hmem), ?_, by rw [List.length_map]; exact h8⟩
  intro y hy
  obtain ⟨x, hx, rfl⟩ := List.mem_map.1 hy
  exact valD_bd (hmem x hx)

end Go.Proofs.YtmekcgbljpeglaaDoor
