import Derived.Test.YtogkojedglpekaaA1
import Derived.Test.YtogkojedglpekaaA2
import Derived.Test.YtogkojedglpekaaK1
namespace Go.Proofs.Ytogkojedglpekaa
set_option maxHeartbeats 400000
set_option linter.unusedVariables false

/-- both sums of Adler. -/
def adl (p : Nat × Nat) (l : List UInt8) : Nat × Nat := l.foldl (fun p b => ((p.1 + b.toNat) % 65521, (p.2 + (p.1 + b.toNat) % 65521) % 65521)) p
theorem adl_append (p : Nat × Nat) (a b : List UInt8) : adl p (a ++ b) = adl (adl p a) b := List.foldl_append
theorem adl_take (p : Nat × Nat) (l : List UInt8) (k : Nat) (h : k < l.length) : adl p (l.take (k + 1)) = (((adl p (l.take k)).1 + l[k].toNat) % 65521, ((adl p (l.take k)).2 + ((adl p (l.take k)).1 + l[k].toNat) % 65521) % 65521) := by
  rw [List.take_succ_eq_append_getElem h, adl_append]
  rfl
theorem adl_lt : ∀ (l : List UInt8) (p : Nat × Nat), p.1 < 65521 → p.2 < 65521 → (adl p l).1 < 65521 ∧ (adl p l).2 < 65521
  | [], p, h1, h2 => ⟨h1, h2⟩
  | b :: l, p, h1, h2 => adl_lt l _ (Nat.mod_lt _ (by omega)) (Nat.mod_lt _ (by omega))
def adler (l : List UInt8) : Nat := (adl (1, 0) l).2 * 65536 + (adl (1, 0) l).1
theorem adler_parts (l : List UInt8) : adler l % 65536 = (adl (1, 0) l).1 ∧ adler l / 65536 = (adl (1, 0) l).2 ∧ adler l < 4294967296 := by
  have h := adl_lt l (1, 0) (by decide) (by decide)
  unfold adler
  omega
theorem adl_join : ∀ (t : List UInt8) (a b k A B D E : Nat), A < 65521 → B < 65521 → D < 65521 → E < 65521 → A = (a + D + 65520) % 65521 → B = (b + E + k * (a + 65520)) % 65521 →
    (adl (A, B) t).1 = (a + (adl (D, E) t).1 + 65520) % 65521 ∧ (adl (A, B) t).2 = (b + (adl (D, E) t).2 + (k + t.length) * (a + 65520)) % 65521
  | [], a, b, k, A, B, D, E, _, _, _, _, h1, h2 => ⟨h1, h2⟩
  | x :: t, a, b, k, A, B, D, E, hA, hB, hD, hE, h1, h2 => by
    have ih := adl_join t a b (k + 1) ((A + x.toNat) % 65521) ((B + (A + x.toNat) % 65521) % 65521) ((D + x.toNat) % 65521) ((E + (D + x.toNat) % 65521) % 65521) (by omega) (by omega) (by omega) (by omega) (by omega) (by
      rw [Nat.add_mul, Nat.one_mul]
      generalize k * (a + 65520) = q at *
      omega)
    rw [show k + (x :: t).length = k + 1 + t.length by simp; omega]
    exact ih
theorem adler_join (s t : List UInt8) :
    (adl (1, 0) (s ++ t)).1 = ((adl (1, 0) s).1 + (adl (1, 0) t).1 + 65520) % 65521 ∧ (adl (1, 0) (s ++ t)).2 = ((adl (1, 0) s).2 + (adl (1, 0) t).2 + t.length % 65521 * ((adl (1, 0) s).1 + 65520)) % 65521 := by
  have h := adl_lt s (1, 0) (by decide) (by decide)
  rw [adl_append]
  obtain ⟨h1, h2⟩ := adl_join t (adl (1, 0) s).1 (adl (1, 0) s).2 0 (adl (1, 0) s).1 (adl (1, 0) s).2 1 0 h.1 h.2 (by omega) (by omega) (by omega) (by omega)
  refine ⟨h1, h2.trans ?_⟩
  have e : t.length % 65521 * ((adl (1, 0) s).1 + 65520) % 65521 = t.length * ((adl (1, 0) s).1 + 65520) % 65521 := Nat.mod_mul_mod ..
  have key : ∀ x y B : Nat, y % 65521 = x % 65521 → (B + x) % 65521 = (B + y) % 65521 := by omega
  rw [Nat.zero_add]
  exact key _ _ _ e
def fnvS (h b : Nat) : Nat := (h ^^^ b) * 1099511628211 % 18446744073709551616
def fnv (h : Nat) (l : List UInt8) : Nat := l.foldl (fun h b => fnvS h b.toNat) h
abbrev fnv0 (l : List UInt8) : Nat := fnv 14695981039346656037 l
theorem fnv_append (p : Nat) (a b : List UInt8) : fnv p (a ++ b) = fnv (fnv p a) b := List.foldl_append
theorem mod64_lt (x : Nat) : x % 18446744073709551616 < 18446744073709551616 := Nat.mod_lt _ (by decide)
theorem fnvS_lt (h b : Nat) : fnvS h b < 18446744073709551616 := by
  show (h ^^^ b) * 1099511628211 % 18446744073709551616 < 18446744073709551616
  exact mod64_lt _
theorem fnv_cons (h : Nat) (b : UInt8) (l : List UInt8) : fnv h (b :: l) = fnv (fnvS h b.toNat) l := by
  unfold fnv
  rw [List.foldl_cons]
theorem fnv_take (p : Nat) (l : List UInt8) (k : Nat) (h : k < l.length) : fnv p (l.take (k + 1)) = fnvS (fnv p (l.take k)) l[k].toNat := by
  rw [List.take_succ_eq_append_getElem h, fnv_append, fnv_cons]
  unfold fnv
  rw [List.foldl_nil]
theorem fnv_lt : ∀ (l : List UInt8) (h : Nat), h < 18446744073709551616 → fnv h l < 18446744073709551616
  | [], h, hh => by unfold fnv; rw [List.foldl_nil]; exact hh
  | b :: l, h, hh => by
    rw [fnv_cons]
    exact fnv_lt l _ (fnvS_lt _ _)
/-- a number in four bytes. -/
def four (c : Nat) : List UInt8 := [UInt8.ofNat c, UInt8.ofNat (c / 256), UInt8.ofNat (c / 65536), UInt8.ofNat (c / 16777216)]
theorem ofNat_mod (n : Nat) : (UInt8.ofNat n).toNat = n % 256 := by simp [UInt8.toNat_ofNat']
theorem four_inj {a b : Nat} (ha : a < 4294967296) (hb : b < 4294967296) (h : four a = four b) : a = b := by
  unfold four at h
  simp only [List.cons.injEq, and_true] at h
  obtain ⟨h1, h2, h3, h4⟩ := h
  have e1 := congrArg UInt8.toNat h1
  have e2 := congrArg UInt8.toNat h2
  have e3 := congrArg UInt8.toNat h3
  have e4 := congrArg UInt8.toNat h4
  rw [ofNat_mod, ofNat_mod] at e1 e2 e3 e4
  omega
theorem four_len (c : Nat) : (four c).length = 4 := rfl
def frameF (s : List UInt8) : List UInt8 := encT s ++ four (crc (encT s))
/-- what Open answers. -/
def openF (l : List UInt8) : List UInt8 × Nat × Int :=
  if (decU l).2.2 ≠ 0 then ([], 0, (decU l).2.2)
  else if 1048576 < (decU l).1 then ([], 0, 3)
  else if l.length < (decU l).2.1 + (decU l).1 + 4 then ([], 0, 5)
  else if (l.drop ((decU l).2.1 + (decU l).1)).take 4 ≠ four (crc (l.take ((decU l).2.1 + (decU l).1))) then ([], 0, 7)
  else ((l.drop (decU l).2.1).take (decU l).1, (decU l).2.1 + (decU l).1 + 4, 0)
theorem openF_at {n : Nat} {p q : List UInt8} (hn : p.length = n) (h : n ≤ 1048576) (hq : 4 ≤ q.length) :
    openF (encU n ++ (p ++ q)) = if q.take 4 ≠ four (crc (encU n ++ p)) then ([], 0, 7) else (p, (encU n ++ p).length + 4, 0) := by
  have hd := decU_enc (n := n) (by omega) (p ++ q)
  have e1 : (encU n ++ (p ++ q)).drop ((encU n).length + n) = q := by
    rw [← hn, ← List.append_assoc, List.drop_append_of_le_length (by simp), ← List.length_append, List.drop_length, List.nil_append]
  have e2 : (encU n ++ (p ++ q)).take ((encU n).length + n) = encU n ++ p := by
    rw [← hn, ← List.append_assoc, ← List.length_append, List.take_append_of_le_length (by simp), List.take_length]
  have e3 : ((encU n ++ (p ++ q)).drop (encU n).length).take n = p := by
    rw [List.drop_append_of_le_length (by simp), List.drop_length, List.nil_append, ← hn, List.take_append_of_le_length (by simp), List.take_length]
  unfold openF
  rw [hd]
  simp only [e1, e2, e3]
  rw [if_neg (by simp), if_neg (by omega), if_neg (by simp; omega)]
  simp [hn]
theorem open_frame (s more : List UInt8) (h : s.length ≤ 1048576) : openF (frameF s ++ more) = (s, (frameF s).length, 0) := by
  have := openF_at (n := s.length) (p := s) (q := four (crc (encT s)) ++ more) rfl h (by simp [four_len])
  unfold frameF
  rw [show encT s ++ four (crc (encT s)) ++ more = encU s.length ++ (s ++ (four (crc (encT s)) ++ more)) by unfold encT; simp, this]
  rw [if_neg (by rw [List.take_append_of_le_length (by rw [four_len]; omega), List.take_of_length_le (by rw [four_len]; omega)]; unfold encT; simp)]
  unfold encT
  simp [four_len]
  omega
/-- one byte of the payload or of the checksum is replaced. -/
theorem open_told (s : List UInt8) (h : s.length ≤ 1048576) (i : Nat) (c : UInt8) (hi : (encU s.length).length ≤ i) (hl : i < (frameF s).length) (hc : (frameF s)[i]? ≠ some c) :
    openF ((frameF s).set i c) = ([], 0, 7) := by
  have hfl : (frameF s).length = (encU s.length).length + s.length + 4 := by unfold frameF encT; simp [four_len]; omega
  by_cases hp : i < (encU s.length).length + s.length
  · obtain ⟨k, rfl⟩ : ∃ k, i = (encU s.length).length + k := ⟨i - (encU s.length).length, by omega⟩
    have hk : k < s.length := by omega
    have e : (frameF s).set ((encU s.length).length + k) c = encU s.length ++ (s.set k c ++ four (crc (encT s))) := by
      unfold frameF
      rw [show encT s ++ four (crc (encT s)) = encU s.length ++ (s ++ four (crc (encT s))) by unfold encT; simp]
      rw [List.set_append_right _ _ (by omega), show (encU s.length).length + k - (encU s.length).length = k by omega, List.set_append_left _ _ hk]
    have hx : s[k] ≠ c := by
      intro hx
      apply hc
      rw [← hx]
      unfold frameF encT
      rw [List.getElem?_append_left (by simp; omega), List.getElem?_append_right (by omega), show (encU s.length).length + k - (encU s.length).length = k by omega, List.getElem?_eq_getElem hk]
    rw [e, openF_at (by simp) h (by simp [four_len]), if_pos ?_]
    rw [List.take_of_length_le (by simp [four_len])]
    intro he
    have he2 := four_inj (crc_lt _) (crc_lt _) he
    have hs : s = s.take k ++ s[k] :: s.drop (k + 1) := by
      rw [← List.drop_eq_getElem_cons hk, List.take_append_drop]
    have hs2 : s.set k c = s.take k ++ c :: s.drop (k + 1) := by rw [List.set_eq_take_append_cons_drop, if_pos hk]
    have e1 : encT s = (encU s.length ++ s.take k) ++ s[k] :: s.drop (k + 1) := by
      unfold encT
      rw [List.append_assoc, ← hs]
    rw [hs2, e1, ← List.append_assoc] at he2
    exact crc_told _ _ hx he2
  · obtain ⟨k, rfl⟩ : ∃ k, i = (encT s).length + k := ⟨i - (encT s).length, by unfold encT; simp; omega⟩
    have htl : (encT s).length = (encU s.length).length + s.length := by unfold encT; simp
    have hk : k < 4 := by omega
    have e : (frameF s).set ((encT s).length + k) c = encU s.length ++ (s ++ (four (crc (encT s))).set k c) := by
      unfold frameF
      rw [List.set_append_right _ _ (by omega), show (encT s).length + k - (encT s).length = k by omega]
      unfold encT
      simp
    have hx : (four (crc (encT s)))[k]'(by rw [four_len]; exact hk) ≠ c := by
      intro hx
      apply hc
      rw [← hx]
      unfold frameF
      rw [List.getElem?_append_right (by omega), show (encT s).length + k - (encT s).length = k by omega, List.getElem?_eq_getElem (by rw [four_len]; exact hk)]
    rw [e, openF_at rfl h (by simp [four_len]), if_pos ?_]
    rw [List.take_of_length_le (by simp [four_len])]
    intro he
    apply hx
    rw [show encU s.length ++ s = encT s from rfl] at he
    have := congrArg (fun l => l[k]?) he
    simp only [List.getElem?_set_self (show k < (four (crc (encT s))).length by rw [four_len]; exact hk)] at this
    rw [List.getElem?_eq_getElem (by rw [four_len]; exact hk)] at this
    exact (Option.some.inj this).symm

end Go.Proofs.Ytogkojedglpekaa
