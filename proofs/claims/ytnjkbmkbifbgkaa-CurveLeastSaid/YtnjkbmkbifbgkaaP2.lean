import Derived.Test.YtnjkbmkbifbgkaaPlain
import Derived.Test.YtnjkbmkbifbgkaaP1
namespace Go.Proofs.Ytnjkbmkbifbgkaa
set_option maxHeartbeats 400000
set_option linter.unusedVariables false

abbrev KL := List (Int × Int)
def kn (L : KL) (i : Nat) : Int × Int := L.getD i (0, 0)
def cu (x : Int) : Int := min 65535 (max x 0)
theorem cu_lo (x : Int) : 0 ≤ cu x := by unfold cu; omega
theorem cu_hi (x : Int) : cu x ≤ 65535 := by unfold cu; omega
theorem cu_self {x : Int} (h : 0 ≤ x) (h' : x ≤ 65535) : cu x = x := by unfold cu; omega
theorem cu_iff (x : Int) : x = cu x ↔ (0 ≤ x ∧ x ≤ 65535) := by unfold cu; omega
theorem kn_zero (p : Int × Int) (l : KL) : kn (p :: l) 0 = p := rfl
theorem kn_succ (p : Int × Int) (l : KL) (i : Nat) : kn (p :: l) (i + 1) = kn l i := rfl
theorem kn_mem {L : KL} {i : Nat} (h : i < L.length) : kn L i ∈ L := by
  unfold kn; rw [List.getD_eq_getElem?_getD, List.getElem?_eq_getElem h]; exact List.getElem_mem h
theorem mem_kn {L : KL} {k : Int × Int} (h : k ∈ L) : ∃ i, i < L.length ∧ kn L i = k := by
  obtain ⟨i, hi, e⟩ := List.getElem_of_mem h
  exact ⟨i, hi, by unfold kn; rw [List.getD_eq_getElem?_getD, List.getElem?_eq_getElem hi]; exact e⟩
/-- whether both numbers of a knot are unit values. -/
def okK (k : Int × Int) : Bool := decide (k.1 = cu k.1) && decide (k.2 = cu k.2)
theorem okK_iff (k : Int × Int) : okK k = true ↔ (0 ≤ k.1 ∧ k.1 ≤ 65535) ∧ (0 ≤ k.2 ∧ k.2 ≤ 65535) := by
  unfold okK; rw [Bool.and_eq_true, decide_eq_true_iff, decide_eq_true_iff, cu_iff, cu_iff]
/-- the error at knot i, 0 if none. -/
def bad (L : KL) (i : Nat) : Int := if okK (kn L i) = false then 2 else if 0 < i ∧ (kn L i).1 ≤ (kn L (i - 1)).1 then 24 else 0
def scan (L : KL) : Nat → Nat → Int
  | 0, _ => 0
  | n + 1, i => if bad L i = 0 then scan L n (i + 1) else bad L i
theorem scan_first {L : KL} : ∀ (n i k : Nat), (∀ j, i ≤ j → j < k → bad L j = 0) → i ≤ k → k < i + n → bad L k ≠ 0 → scan L n i = bad L k
  | 0, i, k, _, h, h', _ => absurd h' (by omega)
  | n + 1, i, k, hz, h, h', hb => by
    unfold scan
    by_cases e : i = k
    · subst e; rw [if_neg hb]
    · rw [if_pos (hz i (Nat.le_refl _) (by omega))]
      exact scan_first n (i + 1) k (fun j h1 h2 => hz j (by omega) h2) (by omega) (by omega) hb
theorem scan_all {L : KL} : ∀ (n i : Nat), (∀ j, i ≤ j → j < i + n → bad L j = 0) → scan L n i = 0
  | 0, _, _ => rfl
  | n + 1, i, hz => by
    unfold scan
    rw [if_pos (hz i (Nat.le_refl _) (by omega))]
    exact scan_all n (i + 1) fun j h1 h2 => hz j (by omega) (by omega)
theorem scan_zero {L : KL} : ∀ (n i : Nat), scan L n i = 0 → ∀ j, i ≤ j → j < i + n → bad L j = 0
  | 0, i, _, j, h, h' => absurd h' (by omega)
  | n + 1, i, hs, j, h, h' => by
    unfold scan at hs
    by_cases e : bad L i = 0
    · rw [if_pos e] at hs
      by_cases e2 : i = j
      · subst e2; exact e
      · exact scan_zero n (i + 1) hs j (by omega) (by omega)
    · rw [if_neg e] at hs; exact absurd hs e
/-- Check's answer. -/
def chk (L : KL) : Int := if L.length < 2 then 1 else if 16 < L.length then 3 else scan L L.length 0
theorem chk_few {L : KL} (h : L.length < 2) : chk L = 1 := by unfold chk; rw [if_pos h]
theorem chk_many {L : KL} (h : 16 < L.length) : chk L = 3 := by unfold chk; rw [if_neg (by omega), if_pos h]
theorem chk_first {L : KL} {k : Nat} (h2 : 2 ≤ L.length) (h16 : L.length ≤ 16) (hz : ∀ j, j < k → bad L j = 0) (hk : k < L.length) (hb : bad L k ≠ 0) : chk L = bad L k := by
  unfold chk; rw [if_neg (by omega), if_neg (by omega)]; exact scan_first _ _ _ (fun j _ h => hz j h) (Nat.zero_le _) (by omega) hb
theorem chk_all {L : KL} (h2 : 2 ≤ L.length) (h16 : L.length ≤ 16) (hz : ∀ j, j < L.length → bad L j = 0) : chk L = 0 := by
  unfold chk; rw [if_neg (by omega), if_neg (by omega)]; exact scan_all _ _ fun j _ h => hz j (by omega)
structure Good (L : KL) : Prop where
  two : 2 ≤ L.length
  some : L.length ≤ 16
  unit : ∀ i, i < L.length → (0 ≤ (kn L i).1 ∧ (kn L i).1 ≤ 65535) ∧ (0 ≤ (kn L i).2 ∧ (kn L i).2 ≤ 65535)
  up : ∀ i, 0 < i → i < L.length → (kn L (i - 1)).1 < (kn L i).1
theorem chk_good {L : KL} (h : chk L = 0) : Good L := by
  unfold chk at h
  by_cases h1 : L.length < 2
  · rw [if_pos h1] at h; cases h
  rw [if_neg h1] at h
  by_cases h2 : 16 < L.length
  · rw [if_pos h2] at h; cases h
  rw [if_neg h2] at h
  have hz := scan_zero _ _ h
  refine ⟨by omega, by omega, fun i hi => ?_, fun i h0 hi => ?_⟩
  · have := hz i (Nat.zero_le _) (by omega)
    unfold bad at this
    by_cases e : okK (kn L i) = false
    · rw [if_pos e] at this; cases this
    · exact (okK_iff _).1 (by simpa using e)
  · have := hz i (Nat.zero_le _) (by omega)
    unfold bad at this
    by_cases e : okK (kn L i) = false
    · rw [if_pos e] at this; cases this
    · rw [if_neg e] at this
      by_cases e2 : 0 < i ∧ (kn L i).1 ≤ (kn L (i - 1)).1
      · rw [if_pos e2] at this; cases this
      · omega
theorem good_chk {L : KL} (h : Good L) : chk L = 0 := by
  refine chk_all h.two h.some fun j hj => ?_
  unfold bad
  rw [if_neg (by rw [(okK_iff _).2 (h.unit j hj)]; simp), if_neg (by rintro ⟨h0, h1⟩; have := h.up j h0 hj; omega)]
/-- the knots of a curve that is accepted are in order. -/
theorem asc_of : ∀ {p : Int × Int} {l : KL}, (∀ i, 0 < i → i < (p :: l).length → (kn (p :: l) (i - 1)).1 < (kn (p :: l) i).1) → Asc p l
  | _, [], _ => trivial
  | p, q :: l, h => ⟨h 1 (by omega) (by simp), asc_of fun i h0 hi => by
      have := h (i + 1) (by omega) (by simp at hi ⊢; omega)
      rw [show i + 1 - 1 = (i - 1) + 1 by omega, kn_succ, kn_succ] at this
      exact this⟩
theorem upS_of : ∀ {p : Int × Int} {l : KL}, (∀ i, 0 < i → i < (p :: l).length → (kn (p :: l) (i - 1)).2 < (kn (p :: l) i).2) → UpS p l
  | _, [], _ => trivial
  | p, q :: l, h => ⟨h 1 (by omega) (by simp), upS_of fun i h0 hi => by
      have := h (i + 1) (by omega) (by simp at hi ⊢; omega)
      rw [show i + 1 - 1 = (i - 1) + 1 by omega, kn_succ, kn_succ] at this
      exact this⟩
theorem up_of : ∀ {p : Int × Int} {l : KL}, (∀ i, 0 < i → i < (p :: l).length → (kn (p :: l) (i - 1)).2 ≤ (kn (p :: l) i).2) → Up p l
  | _, [], _ => trivial
  | p, q :: l, h => ⟨h 1 (by omega) (by simp), up_of fun i h0 hi => by
      have := h (i + 1) (by omega) (by simp at hi ⊢; omega)
      rw [show i + 1 - 1 = (i - 1) + 1 by omega, kn_succ, kn_succ] at this
      exact this⟩
theorem Asc.step : ∀ {p : Int × Int} {l : KL}, Asc p l → ∀ i, 0 < i → i < (p :: l).length → (kn (p :: l) (i - 1)).1 < (kn (p :: l) i).1
  | _, [], _, i, h0, hi => by simp at hi; omega
  | p, q :: l, h, 1, _, _ => h.1
  | p, q :: l, h, i + 2, _, hi => by
    have := Asc.step h.2 (i + 1) (by omega) (by simp at hi ⊢; omega)
    exact this
theorem UpS.step : ∀ {p : Int × Int} {l : KL}, UpS p l → ∀ i, 0 < i → i < (p :: l).length → (kn (p :: l) (i - 1)).2 < (kn (p :: l) i).2
  | _, [], _, i, h0, hi => by simp at hi; omega
  | p, q :: l, h, 1, _, _ => h.1
  | p, q :: l, h, i + 2, _, hi => by
    have := UpS.step h.2 (i + 1) (by omega) (by simp at hi ⊢; omega)
    exact this
theorem Asc.le {p : Int × Int} {l : KL} (h : Asc p l) {i : Nat} (hi : i < (p :: l).length) : p.1 ≤ (kn (p :: l) i).1 := by
  rcases List.mem_cons.1 (kn_mem hi) with e | e
  · rw [e]; exact Int.le_refl _
  · have := h.lt _ e; omega
/-- At's answer. -/
def atF (L : KL) (x : Int) : Int := if chk L = 0 then atV x (kn L 0) L.tail else cu x
theorem atL_seg : ∀ {p : Int × Int} {l : KL} {x : Int} {i : Nat}, Asc p l → i + 1 < (p :: l).length → (kn (p :: l) i).1 ≤ x → x < (kn (p :: l) (i + 1)).1 → atL x p l = seg (kn (p :: l) i) (kn (p :: l) (i + 1)) x
  | p, [], x, i, _, hi, _, _ => by simp at hi
  | p, q :: l, x, 0, h, _, h1, h2 => by
    unfold atL; rw [if_pos (show x < q.1 from h2)]; rfl
  | p, q :: l, x, i + 1, h, hi, h1, h2 => by
    have hq : q.1 ≤ x := by
      have := h.2.le (i := i) (by simp at hi ⊢; omega)
      rw [kn_succ] at h1; omega
    unfold atL; rw [if_neg (by omega)]
    exact atL_seg (p := q) (l := l) h.2 (by simp at hi ⊢; omega) h1 h2
theorem atL_last : ∀ {p : Int × Int} {l : KL} {x : Int}, Asc p l → (kn (p :: l) l.length).1 ≤ x → atL x p l = (kn (p :: l) l.length).2
  | p, [], _, _, _ => rfl
  | p, q :: l, x, h, h1 => by
    have hq : q.1 ≤ x := by
      have := h.2.le (i := l.length) (by simp)
      rw [List.length_cons, kn_succ] at h1; omega
    unfold atL; rw [if_neg (by omega)]
    exact atL_last (p := q) (l := l) h.2 h1
theorem good_cons {L : KL} (h : Good L) : ∃ p l, L = p :: l ∧ Asc p l := by
  match L, h with
  | [], h => exact absurd h.two (by simp)
  | p :: l, h => exact ⟨p, l, rfl, asc_of h.up⟩
theorem atF_bad {L : KL} {x : Int} (h : ¬ chk L = 0) : atF L x = cu x := by unfold atF; rw [if_neg h]
theorem atF_left {L : KL} {x : Int} (h : chk L = 0) (h1 : x ≤ (kn L 0).1) : atF L x = (kn L 0).2 := by
  unfold atF atV; rw [if_pos h, if_pos h1]
theorem atF_seg {L : KL} {x : Int} {i : Nat} (h : chk L = 0) (hi : i + 1 < L.length) (h1 : (kn L i).1 ≤ x) (h2 : x < (kn L (i + 1)).1) : atF L x = seg (kn L i) (kn L (i + 1)) x := by
  obtain ⟨p, l, rfl, ha⟩ := good_cons (chk_good h)
  unfold atF atV
  rw [if_pos h]
  have h0 := ha.le (i := i) (by omega)
  rw [kn_zero]
  show (if x ≤ p.1 then p.2 else atL x p l) = _
  by_cases e : x ≤ p.1
  · rw [if_pos e]
    have e0 : x = p.1 := by omega
    rw [← atL_seg ha hi h1 h2, e0, atL_first ha]
  · rw [if_neg e]; exact atL_seg ha hi h1 h2
theorem atF_right {L : KL} {x : Int} (h : chk L = 0) (h1 : (kn L (L.length - 1)).1 ≤ x) : atF L x = (kn L (L.length - 1)).2 := by
  obtain ⟨p, l, rfl, ha⟩ := good_cons (chk_good h)
  have e1 : (p :: l).length - 1 = l.length := by simp
  rw [e1] at h1 ⊢
  unfold atF atV
  rw [if_pos h, kn_zero]
  show (if x ≤ p.1 then p.2 else atL x p l) = _
  have h0 := ha.le (i := l.length) (by simp)
  by_cases e : x ≤ p.1
  · rw [if_pos e]
    have e0 : x = p.1 := by omega
    rw [← atL_last ha h1, e0, atL_first ha]
  · rw [if_neg e]; exact atL_last ha h1
theorem atF_good {L : KL} (h : chk L = 0) : ∃ p l, L = p :: l ∧ Asc p l ∧ ∀ x, atF L x = atV x p l := by
  obtain ⟨p, l, rfl, ha⟩ := good_cons (chk_good h)
  exact ⟨p, l, rfl, ha, fun x => by unfold atF; rw [if_pos h]; rfl⟩
theorem atF_bounds {L : KL} {x lo hi : Int} (h : chk L = 0) (hb : ∀ i, i < L.length → lo ≤ (kn L i).2 ∧ (kn L i).2 ≤ hi) : lo ≤ atF L x ∧ atF L x ≤ hi := by
  obtain ⟨p, l, rfl, ha, e⟩ := atF_good h
  rw [e]
  exact atV_bounds ha fun k hk => by
    obtain ⟨i, hi, rfl⟩ := mem_kn hk
    exact hb i hi
theorem atF_unit (L : KL) (x : Int) : 0 ≤ atF L x ∧ atF L x ≤ 65535 := by
  by_cases h : chk L = 0
  · exact atF_bounds h fun i hi => ((chk_good h).unit i hi).2
  · rw [atF_bad h]; exact ⟨cu_lo x, cu_hi x⟩
theorem atF_knot {L : KL} (h : chk L = 0) {i : Nat} (hi : i < L.length) : atF L (kn L i).1 = (kn L i).2 := by
  obtain ⟨p, l, rfl, ha, e⟩ := atF_good h
  rw [e]
  exact atV_knot ha _ (kn_mem hi)
theorem atF_mono {L : KL} {x y : Int} (h : chk L = 0) (hu : ∀ i, 0 < i → i < L.length → (kn L (i - 1)).2 ≤ (kn L i).2) (hx : x ≤ y) : atF L x ≤ atF L y := by
  obtain ⟨p, l, rfl, ha, e⟩ := atF_good h
  rw [e, e]
  exact atV_mono ha (up_of hu) hx
/-- Rising's answer. -/
def ris (L : KL) : Bool := decide (chk L = 0 ∧ kn L 0 = (0, 0) ∧ kn L (L.length - 1) = (65535, 65535) ∧ ∀ i, i < L.length → 0 < i → (kn L (i - 1)).2 < (kn L i).2)
theorem ris_iff (L : KL) : ris L = true ↔ chk L = 0 ∧ kn L 0 = (0, 0) ∧ kn L (L.length - 1) = (65535, 65535) ∧ ∀ i, i < L.length → 0 < i → (kn L (i - 1)).2 < (kn L i).2 := by
  unfold ris; rw [decide_eq_true_iff]
theorem ris_no {L : KL} (h : ¬ (chk L = 0 ∧ kn L 0 = (0, 0) ∧ kn L (L.length - 1) = (65535, 65535) ∧ ∀ i, i < L.length → 0 < i → (kn L (i - 1)).2 < (kn L i).2)) : ris L = false := by
  unfold ris; rw [decide_eq_false_iff_not]; exact h
theorem atF_rising {L : KL} {x y : Int} (h : ris L = true) (hx : x ≤ y) : atF L x ≤ atF L y := by
  obtain ⟨h1, _, _, h4⟩ := (ris_iff L).1 h
  exact atF_mono h1 (fun i h0 hi => by have := h4 i hi h0; omega) hx
/-- the inverse. -/
def invF (L : KL) : KL := L.map swp
theorem kn_map (L : KL) (i : Nat) : kn (L.map swp) i = swp (kn L i) := by
  unfold kn
  rw [List.getD_eq_getElem?_getD, List.getD_eq_getElem?_getD, List.getElem?_map]
  cases L[i]? <;> rfl
theorem ris_inv {L : KL} (h : ris L = true) : ris (invF L) = true := by
  obtain ⟨h1, h2, h3, h4⟩ := (ris_iff L).1 h
  have g := chk_good h1
  have hl : (L.map swp).length = L.length := List.length_map _
  rw [ris_iff]
  unfold invF
  refine ⟨good_chk ⟨by rw [hl]; exact g.two, by rw [hl]; exact g.some, fun i hi => ?_, fun i h0 hi => ?_⟩, by rw [kn_map, h2]; rfl, by rw [hl, kn_map, h3]; rfl, fun i hi h0 => ?_⟩
  · rw [kn_map]; rw [hl] at hi; exact ⟨(g.unit i hi).2, (g.unit i hi).1⟩
  · rw [kn_map, kn_map]; rw [hl] at hi; exact h4 i hi h0
  · rw [kn_map, kn_map]; rw [hl] at hi; exact g.up i h0 hi
theorem inv_inv (L : KL) : invF (invF L) = L := swp_swp L
/-- Inverse's error. -/
def invE (L : KL) : Int := if chk L = 0 then (if ris L = true then 0 else 1) else chk L
def invR (L : KL) : KL := if ris L = true then invF L else []
theorem invE_of {L : KL} (h : ¬ chk L = 0) : invE L = chk L := by unfold invE; rw [if_neg h]
theorem ris_chk {L : KL} (h : ris L = true) : chk L = 0 := ((ris_iff L).1 h).1
theorem invR_bad {L : KL} (h : ¬ chk L = 0) : invR L = [] := by
  unfold invR; rw [if_neg fun e => h (ris_chk e)]
/-- Table's answer. -/
def tabV (L : KL) (n : Int) (i : Nat) : Int := atF L (rq ((i : Int) * 65535) (n - 1))
def tabE (L : KL) (n : Int) : Int := if chk L = 0 then (if n < 2 ∨ 256 < n then 2 else 0) else chk L
def tabN (L : KL) (n : Int) : Nat := if chk L = 0 ∧ ¬ (n < 2 ∨ 256 < n) then n.toNat else 0
/-- the least place where a test that does not turn back is met, of those up to 65535. -/
theorem least_unique {f : Int → Bool} {a b : Int} (ha : f a = true) (ha' : ∀ x, 0 ≤ x → x < a → f x = false) (hb : f b = true) (hb' : ∀ x, 0 ≤ x → x < b → f x = false) (h0 : 0 ≤ a) (h1 : 0 ≤ b) : a = b := by
  rcases Int.lt_trichotomy a b with h | h | h
  · rw [hb' a h0 h] at ha; cases ha
  · exact h
  · rw [ha' b h1 h] at hb; cases hb
def tst (L : KL) (y x : Int) : Bool := decide (cu y ≤ atF L x)
def backV (L : KL) (y : Int) : Int := half (tst L y) 17 0 65535
def backF (L : KL) (y : Int) : Int := if ris L = true then backV L y else -1
theorem tst_mono {L : KL} (h : ris L = true) (y : Int) : ∀ a b, a ≤ b → tst L y a = true → tst L y b = true := by
  intro a b hab ht
  unfold tst at ht ⊢
  rw [decide_eq_true_iff] at ht ⊢
  have := atF_rising h hab
  omega
theorem tst_end {L : KL} (h : ris L = true) (y : Int) : tst L y 65535 = true := by
  obtain ⟨h1, h2, h3, h4⟩ := (ris_iff L).1 h
  have := atF_right (x := 65535) h1 (by rw [h3]; exact Int.le_refl _)
  unfold tst
  rw [this, h3, decide_eq_true_iff]
  exact cu_hi y
theorem backV_spec {L : KL} (h : ris L = true) (y : Int) : 0 ≤ backV L y ∧ backV L y ≤ 65535 ∧ tst L y (backV L y) = true ∧ ∀ x, 0 ≤ x → x < backV L y → tst L y x = false :=
  half_spec (tst_mono h y) 17 0 65535 (by omega) (by decide) (tst_end h y)
theorem backV_is {L : KL} (h : ris L = true) {y r : Int} (h0 : 0 ≤ r) (h1 : tst L y r = true) (h2 : ∀ x, 0 ≤ x → x < r → tst L y x = false) : backV L y = r := by
  obtain ⟨a, b, c, d⟩ := backV_spec h y
  exact least_unique c d h1 h2 a h0
/-- how far behind its left end a piece reaches a value. -/
theorem seg_ge {p q : Int × Int} {x u : Int} (hx : p.1 < q.1) (hy : p.2 < q.2) : u ≤ seg p q x ↔ (2 * (u - p.2) - 1) * (q.1 - p.1) ≤ 2 * (q.2 - p.2) * (x - p.1) := by
  have hs := rq_spec (n := (q.2 - p.2) * (x - p.1)) (d := q.1 - p.1) (by omega)
  have e1 : (2 * (u - p.2) - 1) * (q.1 - p.1) = 2 * ((u - p.2) * (q.1 - p.1)) - (q.1 - p.1) := by rw [Int.sub_mul, Int.mul_assoc, Int.one_mul]
  have e2 : 2 * (q.2 - p.2) * (x - p.1) = 2 * ((q.2 - p.2) * (x - p.1)) := by rw [Int.mul_assoc]
  rw [e1, e2]
  have e3 : u ≤ seg p q x ↔ u - p.2 ≤ rq ((q.2 - p.2) * (x - p.1)) (q.1 - p.1) := by unfold seg; omega
  rw [e3]
  generalize rq ((q.2 - p.2) * (x - p.1)) (q.1 - p.1) = Q at *
  constructor
  · intro h
    have := Int.mul_le_mul_of_nonneg_right h (show 0 ≤ q.1 - p.1 by omega)
    omega
  · intro h
    refine Int.not_lt.1 fun hl => ?_
    have := Int.mul_le_mul_of_nonneg_right (show Q + 1 ≤ u - p.2 by omega) (show 0 ≤ q.1 - p.1 by omega)
    rw [Int.add_mul, Int.one_mul] at this
    omega
theorem back_step {L : KL} (h : ris L = true) {y : Int} {i : Nat} (hi : i + 1 < L.length) (h1 : (kn L i).2 < cu y) (h2 : cu y ≤ (kn L (i + 1)).2) :
    backV L y = (kn L i).1 - (-((2 * (cu y - (kn L i).2) - 1) * ((kn L (i + 1)).1 - (kn L i).1))).fdiv (2 * ((kn L (i + 1)).2 - (kn L i).2)) := by
  obtain ⟨c1, c2, c3, c4⟩ := (ris_iff L).1 h
  have g := chk_good c1
  have hx := g.up (i + 1) (by omega) hi
  have hy := c4 (i + 1) hi (by omega)
  rw [Nat.add_sub_cancel] at hx hy
  have hk := (g.unit i (by omega)).1
  have hk1 := atF_knot c1 (i := i) (by omega)
  have hk2 := atF_knot c1 (i := i + 1) hi
  have hseg := fun x => atF_seg (x := x) c1 hi
  have hm := fun {a b : Int} => atF_rising (x := a) (y := b) h
  have hge := fun x => seg_ge (p := kn L i) (q := kn L (i + 1)) (x := x) (u := cu y) hx hy
  clear c2 c3 c4 g
  generalize kn L i = P at *
  generalize kn L (i + 1) = Q at *
  obtain ⟨x0, y0⟩ := P
  obtain ⟨x1, y1⟩ := Q
  dsimp only at *
  have htst : ∀ x, tst L y x = decide (cu y ≤ atF L x) := fun x => rfl
  generalize cu y = u at *
  obtain ⟨N, hN⟩ : ∃ N, N = (2 * (u - y0) - 1) * (x1 - x0) := ⟨_, rfl⟩
  rw [← hN]
  have hd : 0 < 2 * (y1 - y0) := by omega
  have hN0 : 0 < N := by rw [hN]; exact Int.mul_pos (by omega) (by omega)
  have hN1 : N ≤ 2 * (y1 - y0) * (x1 - x0) := by
    rw [hN]; exact Int.mul_le_mul_of_nonneg_right (by omega) (by omega)
  have f1 := Int.mul_fdiv_add_fmod (-N) (2 * (y1 - y0))
  have f2 := Int.fmod_nonneg_of_pos (-N) hd
  have f3 := Int.fmod_lt_of_pos (-N) hd
  generalize (-N).fdiv (2 * (y1 - y0)) = q at *
  generalize (-N).fmod (2 * (y1 - y0)) = m at *
  -- the distance is -q
  have hq0 : q < 0 := by
    refine Int.not_le.1 fun hq => ?_
    have := Int.mul_nonneg (show 0 ≤ 2 * (y1 - y0) by omega) hq
    omega
  have hq1 : -(x1 - x0) ≤ q := by
    refine Int.not_lt.1 fun hq => ?_
    have := Int.mul_le_mul_of_nonneg_left (show q + 1 ≤ -(x1 - x0) by omega) (show 0 ≤ 2 * (y1 - y0) by omega)
    rw [Int.mul_add, Int.mul_neg] at this
    omega
  refine backV_is h (by omega) ?_ ?_
  · rw [htst, decide_eq_true_iff]
    by_cases e : x0 - q = x1
    · rw [e, hk2]; exact h2
    · rw [hseg _ (by omega) (by omega), hge, ← hN, show x0 - q - x0 = -q by omega, Int.mul_neg]
      omega
  · intro x hx0 hxl
    rw [htst, decide_eq_false_iff_not]
    by_cases e : x < x0
    · have := hm (show x ≤ x0 by omega)
      omega
    · rw [hseg _ (by omega) (by omega), hge, ← hN]
      have := Int.mul_le_mul_of_nonneg_left (show x - x0 ≤ -q - 1 by omega) (show 0 ≤ 2 * (y1 - y0) by omega)
      rw [show 2 * (y1 - y0) * (-q - 1) = -(2 * (y1 - y0) * q) - 2 * (y1 - y0) by rw [Int.mul_sub, Int.mul_neg, Int.mul_one]] at this
      omega
theorem back_zero {L : KL} (h : ris L = true) {y : Int} (h1 : cu y ≤ (kn L 0).2) : backV L y = (kn L 0).1 := by
  obtain ⟨c1, c2, c3, c4⟩ := (ris_iff L).1 h
  have hk := atF_knot c1 (i := 0) (by have := (chk_good c1).two; omega)
  rw [c2] at hk h1 ⊢
  refine backV_is h (Int.le_refl _) ?_ fun x h2 h3 => absurd h3 (by simp; omega)
  unfold tst
  rw [decide_eq_true_iff, hk]
  exact h1
/-- a search by halving: how many places below n do not yet meet a test that does not turn back. -/
theorem count_lt {p : Nat → Bool} : ∀ (n : Nat), (∀ a b, a ≤ b → b < n → p a = true → p b = true) → (List.range n).countP (fun i => !p i) ≤ n ∧ ∀ i, i < n → (p i = false ↔ i < (List.range n).countP (fun i => !p i))
  | 0, _ => ⟨by simp, fun i hi => absurd hi (Nat.not_lt_zero i)⟩
  | n + 1, hm => by
    obtain ⟨h1, h2⟩ := count_lt (p := p) n fun a b hab hb ha => hm a b hab (by omega) ha
    rw [List.range_succ, List.countP_append]
    generalize hc : (List.range n).countP (fun i => !p i) = c at *
    have e : List.countP (fun i => !p i) [n] = if p n then 0 else 1 := by
      cases hp : p n <;> simp [hp]
    rw [e]
    cases hp : p n
    · have hall : ∀ i, i < n → p i = false := fun i hi => by
        cases hpi : p i
        · rfl
        · have := hm i n (by omega) (by omega) hpi; rw [hp] at this; cases this
      have hcn : c = n := by
        by_cases e0 : c = n
        · exact e0
        · have := (h2 c (by omega)).1 (hall c (by omega)); omega
      subst hcn
      refine ⟨by simp, fun i hi => ⟨fun _ => by simp; omega, fun _ => ?_⟩⟩
      by_cases e2 : i = c
      · rw [e2]; exact hp
      · exact hall i (by omega)
    · refine ⟨by simp; omega, fun i hi => ?_⟩
      simp only [if_true, Nat.add_zero]
      by_cases e2 : i = n
      · subst e2; rw [hp]; constructor
        · intro h; cases h
        · intro h; omega
      · exact h2 i (by omega)
/-- Div's number at a positive divisor. -/
theorem quo_le {D m r X N : Nat} (h : 2 * D * m + r = X) (hD : 0 < D) (hX : X ≤ 2 * N + D) : m ≤ N := by
  refine Nat.not_lt.1 fun hl => ?_
  obtain ⟨k, hk⟩ : ∃ k, 2 * m = k + 1 := ⟨2 * m - 1, by omega⟩
  have e : 2 * D * m = D * k + D := by rw [Nat.mul_comm 2 D, Nat.mul_assoc, hk, Nat.mul_add, Nat.mul_one]
  have := Nat.le_mul_of_pos_left k hD
  omega
theorem dvi_rq {n d : Int} (hd : 0 < d) (h1 : -4611686018427387904 ≤ n) (h2 : n ≤ 4611686018427387904) : dvi n d = rq n d := by
  have hdn : d.natAbs ≠ 0 := by omega
  unfold dvi dv
  rw [if_neg hdn]
  obtain ⟨D, hD⟩ : ∃ D : Nat, D = d.natAbs := ⟨_, rfl⟩
  obtain ⟨N, hN⟩ : ∃ N : Nat, N = n.natAbs := ⟨_, rfl⟩
  rw [← hD, ← hN]
  have eD : d = (D : Int) := by omega
  have hd0 : decide (d < 0) = false := by rw [decide_eq_false_iff_not]; omega
  by_cases hn : n < 0
  · have en : n = -(N : Int) := by omega
    have hng : ngb n d = true := by unfold ngb; rw [hd0, decide_eq_true hn]; rfl
    rw [hng]
    unfold rnd
    rw [if_pos rfl]
    have e1 := Nat.div_add_mod (2 * N + D - 1) (2 * D)
    have e2 := Nat.mod_lt (2 * N + D - 1) (show 0 < 2 * D by omega)
    generalize (2 * N + D - 1) / (2 * D) = m at *
    generalize (2 * N + D - 1) % (2 * D) = r at *
    have hm := quo_le (N := N) e1 (by omega) (by omega)
    rw [sgd_small (by omega), if_pos rfl]
    have e3 : ((2 * D * m : Nat) : Int) = 2 * d * (m : Int) := by rw [eD, Int.natCast_mul, Int.natCast_mul]; rfl
    have hs := rq_spec (n := n) hd
    have e4 : 2 * (rq n d * d) = 2 * d * rq n d := by rw [Int.mul_comm (rq n d) d, Int.mul_assoc]
    rw [e4] at hs
    generalize rq n d = Q at *
    have e5 : 2 * d * (-(m : Int)) = -(2 * d * (m : Int)) := Int.mul_neg _ _
    rcases Int.lt_trichotomy (-(m : Int)) Q with h | h | h
    · have := Int.mul_le_mul_of_nonneg_left (show -(m : Int) + 1 ≤ Q by omega) (show 0 ≤ 2 * d by omega)
      rw [Int.mul_add, Int.mul_one] at this
      omega
    · exact h
    · have := Int.mul_le_mul_of_nonneg_left (show Q + 1 ≤ -(m : Int) by omega) (show 0 ≤ 2 * d by omega)
      rw [Int.mul_add, Int.mul_one] at this
      omega
  · have en : n = (N : Int) := by omega
    have hng : ngb n d = false := by unfold ngb; rw [hd0, decide_eq_false hn]; rfl
    rw [hng]
    unfold rnd
    rw [if_neg (by decide), Nat.sub_zero]
    have e1 := Nat.div_add_mod (2 * N + D) (2 * D)
    have e2 := Nat.mod_lt (2 * N + D) (show 0 < 2 * D by omega)
    have hm := quo_le (N := N) e1 (by omega) (by omega)
    rw [sgd_small (by omega), if_neg (by decide)]
    unfold rq
    rw [en, eD]
    rfl

end Go.Proofs.Ytnjkbmkbifbgkaa
