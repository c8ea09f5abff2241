import Derived.Test.YtogkojedglpekaaA1
import Derived.Test.YtogkojedglpekaaA2
import Derived.Test.YtogkojedglpekaaK1
import Derived.Test.YtogkojedglpekaaK2
namespace Go.Proofs.Ytogkojedglpekaa
set_option maxHeartbeats 400000
set_option linter.unusedVariables false

theorem rC_cases (l : List UInt8) : ((decU l).2.2 ≠ 0 ∧ (rC 1048576 (l, 0)).2.2 = (decU l).2.2) ∨ ((decU l).2.2 = 0 ∧ 1048576 < (decU l).1 ∧ (rC 1048576 (l, 0)).2.2 = 3) ∨
    ((decU l).2.2 = 0 ∧ (decU l).1 ≤ 1048576 ∧ rC 1048576 (l, 0) = ((decU l).1, (l.drop (decU l).2.1, 0))) := by
  have hu : rU (l, 0) = ((decU l).1, (l.drop (decU l).2.1, (decU l).2.2)) := by unfold rU; rw [if_pos rfl]
  unfold rC
  rw [hu]
  by_cases he : (decU l).2.2 = 0
  · by_cases hm : 1048576 < (decU l).1
    · refine Or.inr (Or.inl ⟨he, hm, ?_⟩)
      rw [if_pos (by simp only; omega)]
      unfold failR
      simp only
      rw [if_pos he]
    · refine Or.inr (Or.inr ⟨he, by omega, ?_⟩)
      rw [if_neg (by simp only; omega), he]
  · refine Or.inl ⟨he, ?_⟩
    rw [(decU_bad he).1]
    rw [if_neg (by simp; omega)]
theorem open_ways (l : List UInt8) : (∃ e : Int, e ≠ 0 ∧ (rT 1048576 (l, 0)).2.2 = e ∧ openF l = ([], 0, e)) ∨
    (∃ q X, rT 1048576 (l, 0) = (X, (l.drop q, 0)) ∧ q ≤ l.length ∧ openF l = if l.length < q + 4 then ([], 0, 5) else if (l.drop q).take 4 ≠ four (crc (l.take q)) then ([], 0, 7) else (X, q + 4, 0)) := by
  rcases rC_cases l with ⟨h0, h1⟩ | ⟨h0, h1, h2⟩ | ⟨h0, h1, h2⟩
  · refine Or.inl ⟨_, h0, ?_, ?_⟩
    · unfold rT
      rw [if_pos (by rw [h1]; exact h0)]
      exact h1
    · unfold openF
      rw [if_pos h0]
  · refine Or.inl ⟨3, by omega, ?_, ?_⟩
    · unfold rT
      rw [if_pos (by rw [h2]; omega)]
      exact h2
    · unfold openF
      rw [if_neg (by rw [h0]; simp), if_pos h1]
  · have hat := (decU_lt l).2
    obtain ⟨n, hn⟩ : ∃ n, (decU l).1 = n := ⟨_, rfl⟩
    obtain ⟨a, ha⟩ : ∃ a, (decU l).2.1 = a := ⟨_, rfl⟩
    rw [hn, ha] at h2
    rw [hn] at h1
    rw [ha] at hat
    by_cases hlen : (l.drop a).length < n
    · refine Or.inl ⟨5, by omega, ?_, ?_⟩
      · unfold rT
        rw [h2, if_neg (by simp), if_pos hlen]
      · unfold openF
        rw [if_neg (by rw [h0]; simp), hn, ha, if_neg (by omega), if_pos (by rw [List.length_drop] at hlen; omega)]
    · refine Or.inr ⟨a + n, (l.drop a).take n, ?_, by rw [List.length_drop] at hlen; omega, ?_⟩
      · unfold rT
        rw [h2, if_neg (by simp), if_neg hlen]
        simp only
        rw [List.drop_drop]
      · unfold openF
        rw [if_neg (by rw [h0]; simp), hn, ha, if_neg (by omega)]

end Go.Proofs.Ytogkojedglpekaa
