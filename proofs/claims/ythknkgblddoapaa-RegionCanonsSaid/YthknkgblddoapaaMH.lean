import Derived.Test.YthknkgblddoapaaProg
import Derived.WalkKit
import Derived.WalkLawsBesides
import Derived.Outline
import Derived.Lib.Walk
import Derived.Deep.QuietTactic
import Derived.BigQuiet
import Derived.RowKit3
import Derived.Deep.LoopGhost
import Derived.Great.Walk
import Derived.Great.BuildSlice
import Derived.Laws.Rows
import Derived.Laws.Tables
import Derived.Laws.CopyOwn
import Derived.Lib.Hide
import Derived.Handy
import Derived.Deep.Onto
import Derived.Test.YthknkgblddoapaaMB
import Derived.Test.YthknkgblddoapaaMA
import Derived.Test.YthknkgblddoapaaMC
import Derived.Test.YthknkgblddoapaaMD
import Derived.Test.YthknkgblddoapaaME
namespace Go.Proofs.Ythknkgblddoapaa

section
set_option maxHeartbeats 400000
set_option linter.unusedVariables false
/-! Growth and tiles of sets: plain facts. -/
def inW (p q : Int) : Prop := (-1048576 ≤ p ∧ p < 1048576) ∧ (-1048576 ≤ q ∧ q < 1048576)
/-- a pixel at most n from one of a rectangle. -/
def nearR (t : Rc) (n p q : Int) : Prop := t.x - n ≤ p ∧ p < t.x + t.w + n ∧ t.y - n ≤ q ∧ q < t.y + t.h + n
theorem inR_world {t : Rc} (h : t.emp = false) {p q : Int} (hp : inR t p q) : inW p q := by
  have := ne_ways t h
  unfold inR at hp
  unfold inW
  omega
theorem grow_form (t : Rc) (n : Int) (h : t.emp = false) (h0 : 0 ≤ n) (h1 : n ≤ 1048576) :
    t.grow n = ⟨max (t.x - n) (-1048576), max (t.y - n) (-1048576), min (t.x + t.w + n) 1048576 - max (t.x - n) (-1048576), min (t.y + t.h + n) 1048576 - max (t.y - n) (-1048576)⟩ := by
  obtain ⟨e0, e1, e2, e3, b⟩ := ne_ways t h
  have hl : lim n = n := by unfold lim; omega
  unfold Rc.grow wrl rcOf
  rw [h, hl, e0, e1, e2, e3]
  simp only [Bool.false_eq_true, if_false]
  rw [if_neg (by omega)]
  congr 1 <;> omega
theorem grow_in (t : Rc) (n : Int) (h : t.emp = false) (h0 : 0 ≤ n) (h1 : n ≤ 1048576) (p q : Int) : inR (t.grow n) p q ↔ inW p q ∧ nearR t n p q := by
  rw [grow_form t n h h0 h1]
  unfold inR inW nearR
  simp only
  omega
theorem ne_of (t : Rc) (h : -1048576 ≤ t.x ∧ -1048576 ≤ t.y ∧ 1 ≤ t.w ∧ 1 ≤ t.h ∧ t.x + t.w ≤ 1048576 ∧ t.y + t.h ≤ 1048576) : t.emp = false := by
  have hv : t.vld = true := by unfold Rc.vld; exact decide_eq_true (by omega)
  unfold Rc.emp
  rw [hv]
  simp
  omega
theorem grow_ne (t : Rc) (n : Int) (h : t.emp = false) (h0 : 0 ≤ n) (h1 : n ≤ 1048576) : (t.grow n).emp = false := by
  have b := ne_ways t h
  rw [grow_form t n h h0 h1]
  refine ne_of _ ?_
  simp only
  omega
def growF (l : List Rc) (n : Int) : List Rc := l.map (·.grow n)
theorem growF_ne {l : List Rc} {n : Int} (hl : ∀ t ∈ l, t.emp = false) (h0 : 0 ≤ n) (h1 : n ≤ 1048576) : ∀ t ∈ growF l n, t.emp = false := by
  intro t ht
  obtain ⟨s, hs, rfl⟩ := List.mem_map.1 ht
  exact grow_ne s n (hl s hs) h0 h1
theorem growF_set {l : List Rc} {n : Int} (hl : ∀ t ∈ l, t.emp = false) (h0 : 0 ≤ n) (h1 : n ≤ 1048576) (p q : Int) : setL (growF l n) p q ↔ inW p q ∧ ∃ t ∈ l, nearR t n p q := by
  constructor
  · rintro ⟨t, ht, hp⟩
    obtain ⟨s, hs, rfl⟩ := List.mem_map.1 ht
    have := (grow_in s n (hl s hs) h0 h1 p q).1 hp
    exact ⟨this.1, s, hs, this.2⟩
  · rintro ⟨hw, t, ht, hp⟩
    exact ⟨t.grow n, List.mem_map.2 ⟨t, ht, rfl⟩, (grow_in t n (hl t ht) h0 h1 p q).2 ⟨hw, hp⟩⟩
theorem growF_sub {l : List Rc} {n : Int} (hl : ∀ t ∈ l, t.emp = false) (h0 : 0 ≤ n) (h1 : n ≤ 1048576) (p q : Int) (h : setL l p q) : setL (growF l n) p q := by
  obtain ⟨t, ht, hp⟩ := h
  refine (growF_set hl h0 h1 p q).2 ⟨inR_world (hl t ht) hp, t, ht, ?_⟩
  unfold inR at hp
  unfold nearR
  omega
/-- growing twice: by any list of the first growth's set. -/
theorem growF_two {l g : List Rc} {n m : Int} (hl : ∀ t ∈ l, t.emp = false) (hg : ∀ t ∈ g, t.emp = false) (hs : ∀ p q, setL g p q ↔ setL (growF l n) p q)
    (h0 : 0 ≤ n) (h1 : 0 ≤ m) (h2 : n + m ≤ 1048576) (p q : Int) : setL (growF g m) p q ↔ setL (growF l (n + m)) p q := by
  rw [growF_set hg h1 (by omega), growF_set hl (by omega) h2]
  constructor
  · rintro ⟨hw, s, hS, hp⟩
    refine ⟨hw, ?_⟩
    have b := ne_ways s (hg s hS)
    have hu : inR s (max s.x (min p (s.x + s.w - 1))) (max s.y (min q (s.y + s.h - 1))) := by unfold inR; omega
    obtain ⟨hw', t, ht, hn⟩ := (growF_set hl h0 (by omega) _ _).1 ((hs _ _).1 ⟨s, hS, hu⟩)
    refine ⟨t, ht, ?_⟩
    unfold nearR at *
    omega
  · rintro ⟨hw, t, ht, hp⟩
    refine ⟨hw, ?_⟩
    have b := ne_ways t (hl t ht)
    have hu : setL (growF l n) (max (max (t.x - n) (-1048576)) (min p (min (t.x + t.w + n) 1048576 - 1))) (max (max (t.y - n) (-1048576)) (min q (min (t.y + t.h + n) 1048576 - 1))) := by
      refine (growF_set hl h0 (by omega) _ _).2 ⟨?_, t, ht, ?_⟩
      · unfold inW at *; omega
      · unfold nearR at *; omega
    obtain ⟨s, hS, hin⟩ := (hs _ _).2 hu
    refine ⟨s, hS, ?_⟩
    unfold inR at hin
    unfold nearR at *
    unfold inW at hw
    omega
/-- the tiles of a rectangle that is not empty, as a rectangle of tiles. -/
def Rc.til (t : Rc) : Rc := ⟨t.x / 16, t.y / 16, (t.x + t.w - 1) / 16 + 1 - t.x / 16, (t.y + t.h - 1) / 16 + 1 - t.y / 16⟩
theorem til_ne (t : Rc) (h : t.emp = false) : t.til.emp = false := by
  have b := ne_ways t h
  refine ne_of _ ?_
  unfold Rc.til
  simp only
  omega
/-- a tile lies in it just if it holds a pixel of the rectangle. -/
theorem til_in (t : Rc) (h : t.emp = false) (p q : Int) : inR t.til p q ↔ ∃ x y, inR t x y ∧ x / 16 = p ∧ y / 16 = q := by
  have b := ne_ways t h
  unfold Rc.til inR
  simp only
  constructor
  · rintro ⟨h1, h2, h3, h4⟩
    refine ⟨max t.x (p * 16), max t.y (q * 16), ?_, ?_, ?_⟩ <;> omega
  · rintro ⟨x, y, ⟨h1, h2, h3, h4⟩, rfl, rfl⟩
    omega
def tilF (l : List Rc) : List Rc := l.map Rc.til
theorem tilF_ne {l : List Rc} (hl : ∀ t ∈ l, t.emp = false) : ∀ t ∈ tilF l, t.emp = false := by
  intro t ht
  obtain ⟨s, hs, rfl⟩ := List.mem_map.1 ht
  exact til_ne s (hl s hs)
theorem tilF_set {l : List Rc} (hl : ∀ t ∈ l, t.emp = false) (p q : Int) : setL (tilF l) p q ↔ ∃ x y, setL l x y ∧ x / 16 = p ∧ y / 16 = q := by
  constructor
  · rintro ⟨t, ht, hp⟩
    obtain ⟨s, hs, rfl⟩ := List.mem_map.1 ht
    obtain ⟨x, y, h1, h2⟩ := (til_in s (hl s hs) p q).1 hp
    exact ⟨x, y, ⟨s, hs, h1⟩, h2⟩
  · rintro ⟨x, y, ⟨t, ht, h1⟩, h2⟩
    exact ⟨t.til, List.mem_map.2 ⟨t, ht, rfl⟩, (til_in t (hl t ht) p q).2 ⟨x, y, h1, h2⟩⟩
end

section
open Go.RowKit
set_option maxHeartbeats 400000
set_option linter.unusedVariables false
/-- the corners of the smallest rectangle about some. -/
structure Cor where
  x0 : Int
  y0 : Int
  x1 : Int
  y1 : Int
def Cor.step (c : Cor) (t : Rc) : Cor := ⟨if t.x < c.x0 then t.x else c.x0, if t.y < c.y0 then t.y else c.y0, if c.x1 < t.x + t.w then t.x + t.w else c.x1, if c.y1 < t.y + t.h then t.y + t.h else c.y1⟩
def Cor.of (t : Rc) : Cor := ⟨t.x, t.y, t.x + t.w, t.y + t.h⟩
def corF (l : List Rc) (k : Nat) : Cor := (l.take k).foldl Cor.step (Cor.of (l.getD 0 Rc.zero))
def boxF (l : List Rc) : Rc := match l with
  | [] => ⟨0, 0, 0, 0⟩
  | _ => ⟨(corF l l.length).x0, (corF l l.length).y0, (corF l l.length).x1 - (corF l l.length).x0, (corF l l.length).y1 - (corF l l.length).y0⟩
theorem corF_succ (l : List Rc) (k : Nat) (h : k < l.length) : corF l (k + 1) = (corF l k).step (l.getD k Rc.zero) := by
  unfold corF
  rw [List.take_succ_eq_append_getElem h, List.foldl_append, List.getD_eq_getElem?_getD (i := k), List.getElem?_eq_getElem h]
  rfl
def Cor.mod (c : Cor) : Prop := (-4194304 ≤ c.x0 ∧ c.x0 ≤ 4194304) ∧ (-4194304 ≤ c.y0 ∧ c.y0 ≤ 4194304) ∧ (-8388608 ≤ c.x1 ∧ c.x1 ≤ 8388608) ∧ (-8388608 ≤ c.y1 ∧ c.y1 ≤ 8388608)
theorem corF_mod (l : List Rc) (h : ∀ t ∈ l, t.mod) (h0 : 0 < l.length) : ∀ k, k ≤ l.length → (corF l k).mod
  | 0, _ => by
    have := h _ (getR_mem (k := 0) h0)
    unfold corF Cor.of Cor.mod
    unfold Rc.mod at this
    simp only [List.take_zero, List.foldl_nil]
    omega
  | k + 1, hk => by
    have ih := corF_mod l h h0 k (by omega)
    have := h _ (getR_mem (k := k) (by omega))
    rw [corF_succ l k (by omega)]
    generalize corF l k = c at *
    generalize l.getD k Rc.zero = t at *
    unfold Cor.step Cor.mod
    unfold Cor.mod at ih
    unfold Rc.mod at this
    simp only
    refine ⟨?_, ?_, ?_, ?_⟩ <;> split <;> omega
set_option maxHeartbeats 8000000 in
set_option maxRecDepth 100000 in
theorem gBox (v : Value) (L : List Rc) (w : World) (hL : ∀ t ∈ L, t.big) (h : argR w w.heap.size v L) :
    Calls Try.prog 28 #[v] w fun e w' => e = .returned (Rc.val (boxF (partF L))) ∧ Below w.heap.size w w' := by
  have cP := fun W (hB : Below w.heap.size w W) => gPart v L W hL ((h.below hB).mono hB.size)
  have pm := part_mod (L := L)
  have pl := partF_len L
  generalize partF L = l at *
  have CP := Lib.hid cP
  clear cP h hL
  by_cases h0 : l.length = 0
  · obtain rfl : l = [] := List.length_eq_zero_iff.1 h0
    unfold boxF Rc.val
    clear pm pl h0
    simp only [List.length_nil] at CP
    go_enter Try.func28, Try.ntmps28
    go_wp2_with (first | (go_at_call 36; (with_reducible refine (CP.out _ (by go_grown)).mono ?_); rintro e w1 ⟨u, rfl, hg, hown⟩; obtain ⟨ao, cap, rfl, hao, hcap, hcap2⟩ := row_form hown; have hs := hg.size; (try simp at hs); have r0 : rec4 w1 w.heap.size 0 0 0 0 := (rec4.new _ _ _ _ _ _).below hg (by simp); have hB1 : Below w.heap.size w w1 := Below.trans (by go_grown) (hg.mono (by simp)); have q0 := r0; obtain ⟨⟨c00, c01, c02, c03⟩, f00, f01, f02, f03⟩ := q0))
    exact bodyPost_ret (v := .agg #[.int .i64 0, .int .i64 0, .int .i64 0, .int .i64 0]) (by simp [results, Try.results28, go_sem, *]) rfl ⟨rfl, by go_grown⟩
  · have hE : boxF l = ⟨(corF l l.length).x0, (corF l l.length).y0, (corF l l.length).x1 - (corF l l.length).x0, (corF l l.length).y1 - (corF l l.length).y0⟩ := by
      cases l with
      | nil => exact absurd rfl h0
      | cons t l => rfl
    rw [hE]
    obtain ⟨n, hn⟩ : ∃ n, l.length = n := ⟨_, rfl⟩
    have cm := corF_mod l pm (by omega) l.length (Nat.le_refl _)
    rw [hn] at CP cm pl h0 ⊢
    have HN := Lib.hid hn
    have PM := Lib.hid pm
    obtain ⟨⟨m1, m2⟩, ⟨m3, m4⟩, ⟨m5, m6⟩, ⟨m7, m8⟩⟩ := cm
    unfold Rc.val
    have hnz : ((n : Int) == 0) = false := by simp; omega
    clear hE hn pm
    go_enter Try.func28, Try.ntmps28
    go_wp2_with (first | (go_at_call 36; (with_reducible refine (CP.out _ (by go_grown)).mono ?_); rintro e w1 ⟨u, rfl, hg, hown⟩; obtain ⟨ao, cap, rfl, hao, hcap, hcap2⟩ := row_form hown; have hs := hg.size; (try simp at hs); have r0 : rec4 w1 w.heap.size 0 0 0 0 := (rec4.new _ _ _ _ _ _).below hg (by simp); have hB1 : Below w.heap.size w w1 := Below.trans (by go_grown) (hg.mono (by simp)); have q0 := r0; obtain ⟨⟨c00, c01, c02, c03⟩, f00, f01, f02, f03⟩ := q0))
    obtain ⟨g, rfl⟩ := hao (by omega)
    have rowf := fun k (hk : k < n) => (show w1.cell? ⟨g, k * 4, none⟩ = some (.int .i64 (l.getD k Rc.zero).x) ∧ w1.cell? ⟨g, k * 4 + 1, none⟩ = some (.int .i64 (l.getD k Rc.zero).y) ∧ w1.cell? ⟨g, k * 4 + 2, none⟩ = some (.int .i64 (l.getD k Rc.zero).w) ∧ w1.cell? ⟨g, k * 4 + 3, none⟩ = some (.int .i64 (l.getD k Rc.zero).h) from by
      obtain ⟨e0, e1, e2, e3⟩ := cellsR_at l k (by rw [HN.out]; exact hk)
      exact ⟨(hown.cellAt (k * 4) (by omega)).trans e0, (hown.cellAt (k * 4 + 1) (by omega)).trans e1, (hown.cellAt (k * 4 + 2) (by omega)).trans e2, (hown.cellAt (k * 4 + 3) (by omega)).trans e3⟩)
    have RF := Lib.hid rowf
    obtain ⟨e0, e1, e2, e3⟩ := rowf 0 (by omega)
    simp only [Nat.zero_mul, Nat.zero_add] at e0 e1 e2 e3
    obtain ⟨⟨b1, b2⟩, ⟨b3, b4⟩, ⟨b5, b6⟩, ⟨b7, b8⟩⟩ := PM.out _ (getR_mem (L := l) (k := 0) (by rw [HN.out]; omega))
    have C0 := Lib.hid (show corF l 0 = Cor.of (l.getD 0 Rc.zero) from rfl)
    generalize l.getD 0 Rc.zero = F at *
    have k1 : IntKind.i64.wrap (F.x + F.w) = F.x + F.w := IntWalk.i64_in _ (by omega)
    have k2 : IntKind.i64.wrap (F.y + F.h) = F.y + F.h := IntWalk.i64_in _ (by omega)
    clear rowf hown hao hg
    go_quiet (fail)
    go_wp2
    clear k1 k2 b1 b2 b3 b4 b5 b6 b7 b8 e0 e1 e2 e3
    go_loopw [4, 5, 6, 7, 43] (fun p q r s i wr => ∃ k : Nat, k ≤ n ∧ i = .int .i64 (k : Int) ∧ p = .int .i64 (corF l k).x0 ∧ q = .int .i64 (corF l k).y0 ∧ r = .int .i64 (corF l k).x1 ∧ s = .int .i64 (corF l k).y1 ∧ ∃ q, wr = w1.drewN q) (fun _ _ _ _ i _ => (n - (intOf i).toNat))
    case atStart => exact ⟨0, by omega, rfl, by rw [C0.out]; rfl, by rw [C0.out]; rfl, by rw [C0.out]; rfl, by rw [C0.out]; rfl, _, rfl⟩
    case round =>
      obtain ⟨k, hk, rfl, rfl, rfl, rfl, rfl, q, rfl⟩ := hrel
      by_cases hlt : k < n
      · have SU := Lib.hid (corF_succ l k (by rw [HN.out]; exact hlt))
        obtain ⟨e0, e1, e2, e3⟩ := RF.out k hlt
        obtain ⟨⟨b1, b2⟩, ⟨b3, b4⟩, ⟨b5, b6⟩, ⟨b7, b8⟩⟩ := PM.out _ (getR_mem (L := l) (k := k) (by rw [HN.out]; exact hlt))
        generalize l.getD k Rc.zero = S at *
        generalize corF l k = c at *
        have kk : IntKind.i64.wrap ((k : Int) + 1) = (k : Int) + 1 := IntWalk.i64_in _ (by omega)
        have k1 : IntKind.i64.wrap (S.x + S.w) = S.x + S.w := IntWalk.i64_in _ (by omega)
        have k2 : IntKind.i64.wrap (S.y + S.h) = S.y + S.h := IntWalk.i64_in _ (by omega)
        by_cases d1 : S.x < c.x0
        all_goals by_cases d2 : S.y < c.y0
        all_goals by_cases d3 : c.x1 < S.x + S.w
        all_goals by_cases d4 : c.y1 < S.y + S.h
        all_goals
          first
          | have v1 := decide_eq_true d1
          | have v1 := decide_eq_false d1
          first
          | have v2 := decide_eq_true d2
          | have v2 := decide_eq_false d2
          first
          | have v3 := decide_eq_true d3
          | have v3 := decide_eq_false d3
          first
          | have v4 := decide_eq_true d4
          | have v4 := decide_eq_false d4
          go_wp2
          go_quiet (fail)
          go_wp2
          try go_quiet (fail)
          try go_wp2
          try go_quiet (fail)
          try go_wp2
          try go_quiet (fail)
          try go_wp2
          go_roundw
          case rel => exact ⟨k + 1, by omega, by simp, by rw [SU.out]; unfold Cor.step; first | (exact congrArg _ (if_pos d1).symm) | (exact congrArg _ (if_neg (Int.not_lt.2 d1)).symm), by rw [SU.out]; unfold Cor.step; first | (exact congrArg _ (if_pos d2).symm) | (exact congrArg _ (if_neg (Int.not_lt.2 d2)).symm), by rw [SU.out]; unfold Cor.step; first | (exact congrArg _ (if_pos d3).symm) | (exact congrArg _ (if_neg (Int.not_lt.2 d3)).symm), by rw [SU.out]; unfold Cor.step; first | (exact congrArg _ (if_pos d4).symm) | (exact congrArg _ (if_neg (Int.not_lt.2 d4)).symm), _, rfl⟩
          case measure => simp [intOf]; omega
      · obtain rfl : k = n := by omega
        clear hlt
        have k1 : IntKind.i64.wrap ((corF l k).x1 - (corF l k).x0) = (corF l k).x1 - (corF l k).x0 := IntWalk.i64_in _ (by omega)
        have k2 : IntKind.i64.wrap ((corF l k).y1 - (corF l k).y0) = (corF l k).y1 - (corF l k).y0 := IntWalk.i64_in _ (by omega)
        go_wp2
        exact bodyPost_ret (v := .agg #[.int .i64 (corF l k).x0, .int .i64 (corF l k).y0, .int .i64 ((corF l k).x1 - (corF l k).x0), .int .i64 ((corF l k).y1 - (corF l k).y0)]) (by simp [results, Try.results28, go_sem, *]) rfl ⟨rfl, by go_grown; first | exact hB1 | exact hB1.trans ((Gr.drewN (Gr.refl w1) q).1.mono hB1.size)⟩
end

section
set_option maxHeartbeats 400000
set_option linter.unusedVariables false
/-! The smallest rectangle about a set: plain facts. -/
theorem corF_spec (l : List Rc) (h0 : 0 < l.length) : ∀ k, k ≤ l.length →
    (∀ j, j < k → (corF l k).x0 ≤ (l.getD j Rc.zero).x ∧ (corF l k).y0 ≤ (l.getD j Rc.zero).y ∧ (l.getD j Rc.zero).x + (l.getD j Rc.zero).w ≤ (corF l k).x1 ∧ (l.getD j Rc.zero).y + (l.getD j Rc.zero).h ≤ (corF l k).y1) ∧
    (∃ t ∈ l, (corF l k).x0 = t.x) ∧ (∃ t ∈ l, (corF l k).y0 = t.y) ∧ (∃ t ∈ l, (corF l k).x1 = t.x + t.w) ∧ (∃ t ∈ l, (corF l k).y1 = t.y + t.h)
  | 0, _ => by
    have hm := getR_mem (L := l) (k := 0) h0
    refine ⟨fun j hj => absurd hj (by omega), ⟨_, hm, rfl⟩, ⟨_, hm, rfl⟩, ⟨_, hm, rfl⟩, ⟨_, hm, rfl⟩⟩
  | k + 1, hk => by
    obtain ⟨i0, i1, i2, i3, i4⟩ := corF_spec l h0 k (by omega)
    have hm := getR_mem (L := l) (k := k) (by omega)
    rw [corF_succ l k (by omega)]
    generalize hc : corF l k = c at *
    generalize ht : l.getD k Rc.zero = t at *
    unfold Cor.step
    simp only
    refine ⟨fun j hj => ?_, ?_, ?_, ?_, ?_⟩
    · by_cases e : j = k
      · rw [e, ht]
        refine ⟨?_, ?_, ?_, ?_⟩ <;> split <;> omega
      · obtain ⟨a1, a2, a3, a4⟩ := i0 j (by omega)
        generalize l.getD j Rc.zero = s at *
        refine ⟨?_, ?_, ?_, ?_⟩ <;> split <;> omega
    · split
      · exact ⟨t, hm, rfl⟩
      · exact i1
    · split
      · exact ⟨t, hm, rfl⟩
      · exact i2
    · split
      · exact ⟨t, hm, rfl⟩
      · exact i3
    · split
      · exact ⟨t, hm, rfl⟩
      · exact i4
theorem corF_all (l : List Rc) (h0 : 0 < l.length) (t : Rc) (ht : t ∈ l) :
    (corF l l.length).x0 ≤ t.x ∧ (corF l l.length).y0 ≤ t.y ∧ t.x + t.w ≤ (corF l l.length).x1 ∧ t.y + t.h ≤ (corF l l.length).y1 := by
  obtain ⟨j, hj, rfl⟩ := List.getElem_of_mem ht
  have := (corF_spec l h0 l.length (Nat.le_refl _)).1 j hj
  rw [List.getD_eq_getElem?_getD, List.getElem?_eq_getElem hj] at this
  exact this
/-- the corners are those of the set. -/
theorem corF_le {l m : List Rc} (hl : ∀ t ∈ l, t.emp = false) (hm : ∀ t ∈ m, t.emp = false) (h0 : 0 < l.length) (h1 : 0 < m.length) (h : ∀ p q, setL l p q → setL m p q) :
    (corF m m.length).x0 ≤ (corF l l.length).x0 ∧ (corF m m.length).y0 ≤ (corF l l.length).y0 ∧ (corF l l.length).x1 ≤ (corF m m.length).x1 ∧ (corF l l.length).y1 ≤ (corF m m.length).y1 := by
  obtain ⟨-, ⟨t1, m1, e1⟩, ⟨t2, m2, e2⟩, ⟨t3, m3, e3⟩, ⟨t4, m4, e4⟩⟩ := corF_spec l h0 l.length (Nat.le_refl _)
  rw [e1, e2, e3, e4]
  refine ⟨?_, ?_, ?_, ?_⟩
  · have b := ne_ways t1 (hl t1 m1)
    obtain ⟨s, hs, hin⟩ := h t1.x t1.y ⟨t1, m1, by unfold inR; omega⟩
    have := corF_all m h1 s hs
    unfold inR at hin
    omega
  · have b := ne_ways t2 (hl t2 m2)
    obtain ⟨s, hs, hin⟩ := h t2.x t2.y ⟨t2, m2, by unfold inR; omega⟩
    have := corF_all m h1 s hs
    unfold inR at hin
    omega
  · have b := ne_ways t3 (hl t3 m3)
    obtain ⟨s, hs, hin⟩ := h (t3.x + t3.w - 1) t3.y ⟨t3, m3, by unfold inR; omega⟩
    have := corF_all m h1 s hs
    unfold inR at hin
    omega
  · have b := ne_ways t4 (hl t4 m4)
    obtain ⟨s, hs, hin⟩ := h t4.x (t4.y + t4.h - 1) ⟨t4, m4, by unfold inR; omega⟩
    have := corF_all m h1 s hs
    unfold inR at hin
    omega
theorem boxF_form {l : List Rc} (h : 0 < l.length) : boxF l = ⟨(corF l l.length).x0, (corF l l.length).y0, (corF l l.length).x1 - (corF l l.length).x0, (corF l l.length).y1 - (corF l l.length).y0⟩ := by
  cases l with
  | nil => exact absurd h (by simp)
  | cons t l => rfl
theorem set_ne {l : List Rc} (hl : ∀ t ∈ l, t.emp = false) (h0 : 0 < l.length) : ∃ p q, setL l p q := by
  have hm := getR_mem (L := l) (k := 0) h0
  have b := ne_ways _ (hl _ hm)
  generalize l.getD 0 Rc.zero = t at *
  exact ⟨t.x, t.y, t, hm, by unfold inR; omega⟩
/-- the box belongs to the set, whatever list it has. -/
theorem boxF_set {l m : List Rc} (hl : ∀ t ∈ l, t.emp = false) (hm : ∀ t ∈ m, t.emp = false) (h : ∀ p q, setL l p q ↔ setL m p q) : boxF l = boxF m := by
  by_cases h0 : 0 < l.length
  · obtain ⟨p, q, hp⟩ := set_ne hl h0
    obtain ⟨t, ht, -⟩ := (h p q).1 hp
    have h1 : 0 < m.length := List.length_pos_of_mem ht
    have a := corF_le hl hm h0 h1 (fun p q => (h p q).1)
    have b := corF_le hm hl h1 h0 (fun p q => (h p q).2)
    rw [boxF_form h0, boxF_form h1]
    congr 1 <;> omega
  · have h1 : ¬ 0 < m.length := fun h1 => by
      obtain ⟨p, q, hp⟩ := set_ne hm h1
      obtain ⟨t, ht, -⟩ := (h p q).2 hp
      exact h0 (List.length_pos_of_mem ht)
    obtain rfl : l = [] := List.length_eq_zero_iff.1 (by omega)
    obtain rfl : m = [] := List.length_eq_zero_iff.1 (by omega)
    rfl
/-- every pixel of the set lies in the box. -/
theorem boxF_in {l : List Rc} (p q : Int) (h : setL l p q) : inR (boxF l) p q := by
  obtain ⟨t, ht, hin⟩ := h
  have h0 : 0 < l.length := List.length_pos_of_mem ht
  have := corF_all l h0 t ht
  rw [boxF_form h0]
  unfold inR at *
  simp only
  omega
end

section
set_option maxHeartbeats 400000
set_option linter.unusedVariables false
/-! The cells of a canonical list, row by row: plain facts. -/
def runCells (q : Int) (r : Int × Int) : List (Int × Int) := (List.range r.2.toNat).map fun (i : Nat) => (r.1 + (i : Int), q)
def rowCells (R : List (Int × Int)) (q : Int) : List (Int × Int) := R.flatMap (runCells q)
def bandCells (b : Band) : List (Int × Int) := (List.range b.h.toNat).flatMap fun (j : Nat) => rowCells b.runs (b.y + (j : Int))
def allCells (l : List Band) : List (Int × Int) := l.flatMap bandCells
theorem runCells_mem (q : Int) (r : Int × Int) (x y : Int) : (x, y) ∈ runCells q r ↔ y = q ∧ r.1 ≤ x ∧ x < r.1 + r.2 := by
  unfold runCells
  simp only [List.mem_map, List.mem_range, Prod.mk.injEq]
  constructor
  · rintro ⟨i, h1, h2, h3⟩
    omega
  · rintro ⟨h1, h2, h3⟩
    exact ⟨(x - r.1).toNat, by omega, by omega, h1.symm⟩
theorem rowCells_mem (R : List (Int × Int)) (q x y : Int) : (x, y) ∈ rowCells R q ↔ y = q ∧ runsHas R x := by
  unfold rowCells runsHas
  simp only [List.mem_flatMap, runCells_mem]
  constructor
  · rintro ⟨r, h1, h2, h3⟩
    exact ⟨h2, r, h1, h3⟩
  · rintro ⟨h2, r, h1, h3⟩
    exact ⟨r, h1, h2, h3⟩
theorem bandCells_mem (b : Band) (x y : Int) : (x, y) ∈ bandCells b ↔ b.has x y := by
  unfold bandCells Band.has
  simp only [List.mem_flatMap, List.mem_range, rowCells_mem]
  constructor
  · rintro ⟨j, h1, h2, h3⟩
    exact ⟨by omega, by omega, h3⟩
  · rintro ⟨h1, h2, h3⟩
    exact ⟨(y - b.y).toNat, by omega, by omega, h3⟩
theorem allCells_mem (l : List Band) (x y : Int) : (x, y) ∈ allCells l ↔ setL (flat l) x y := by
  rw [setL_flat]
  unfold allCells bandsHas
  simp only [List.mem_flatMap, bandCells_mem]
/-- row by row, and in each row from the left to the right. -/
def cellLt (a b : Int × Int) : Prop := a.2 < b.2 ∨ (a.2 = b.2 ∧ a.1 < b.1)
theorem runCells_sorted (q : Int) (r : Int × Int) : (runCells q r).Pairwise cellLt := by
  unfold runCells
  rw [List.pairwise_map]
  refine List.Pairwise.imp ?_ (List.pairwise_lt_range)
  intro a b h
  exact Or.inr ⟨rfl, by simp only; omega⟩
theorem rowCells_sorted (q : Int) : ∀ {R : List (Int × Int)}, RunsOk R → (rowCells R q).Pairwise cellLt
  | [], _ => List.Pairwise.nil
  | r :: R, h => by
    unfold rowCells
    rw [List.flatMap_cons, List.pairwise_append]
    refine ⟨runCells_sorted q r, rowCells_sorted q h.tail, ?_⟩
    rintro ⟨x, y⟩ ha ⟨x', y'⟩ hb
    have h1 := (runCells_mem q r x y).1 ha
    have h2 := (rowCells_mem R q x' y').1 hb
    have h3 := runs_tail_gt h h2.2
    exact Or.inr ⟨by simp only; omega, by simp only; omega⟩
theorem flatMap_sorted {α β : Type} {lt : β → β → Prop} (f : α → List β) (below : α → α → Prop) (h1 : ∀ a, (f a).Pairwise lt) (h2 : ∀ a b, below a b → ∀ x ∈ f a, ∀ y ∈ f b, lt x y) :
    ∀ {l : List α}, l.Pairwise below → (l.flatMap f).Pairwise lt
  | [], _ => List.Pairwise.nil
  | a :: l, h => by
    rw [List.flatMap_cons, List.pairwise_append]
    obtain ⟨ha, hl⟩ := List.pairwise_cons.1 h
    refine ⟨h1 a, flatMap_sorted f below h1 h2 hl, fun x hx y hy => ?_⟩
    obtain ⟨b, hb, hy⟩ := List.mem_flatMap.1 hy
    exact h2 a b (ha b hb) x hx y hy
theorem bandCells_sorted (b : Band) (h : RunsOk b.runs) : (bandCells b).Pairwise cellLt := by
  unfold bandCells
  refine flatMap_sorted (below := fun (i j : Nat) => i < j) _ (fun i => rowCells_sorted _ h) ?_ List.pairwise_lt_range
  rintro i j hij ⟨x, y⟩ hx ⟨x', y'⟩ hy
  have a1 := (rowCells_mem _ _ _ _).1 hx
  have a2 := (rowCells_mem _ _ _ _).1 hy
  exact Or.inl (by simp only; omega)
theorem allCells_sorted {l : List Band} (h : BandsOk l) : (allCells l).Pairwise cellLt := by
  unfold allCells
  have hl := h.1
  have ho := h.2
  clear h
  induction l with
  | nil => exact List.Pairwise.nil
  | cons b l ih =>
    rw [List.flatMap_cons, List.pairwise_append]
    obtain ⟨hb, hl⟩ := List.pairwise_cons.1 hl
    refine ⟨bandCells_sorted b (ho b (List.mem_cons_self ..)).2.2, ih hl (fun c hc => ho c (List.mem_cons_of_mem _ hc)), ?_⟩
    rintro ⟨x, y⟩ hx ⟨x', y'⟩ hy
    obtain ⟨c, hc, hy⟩ := List.mem_flatMap.1 hy
    have a1 := (bandCells_mem _ _ _).1 hx
    have a2 := (bandCells_mem _ _ _).1 hy
    have a3 := (hb c hc).1
    unfold Band.has at a1 a2
    exact Or.inl (by simp only; omega)
theorem cellLt_irr (a : Int × Int) : ¬ cellLt a a := by unfold cellLt; omega
theorem cellLt_asymm {a b : Int × Int} (h : cellLt a b) : ¬ cellLt b a := by unfold cellLt at *; omega
/-- two sorted lists of the same cells are equal. -/
theorem cells_uniq : ∀ {l m : List (Int × Int)}, l.Pairwise cellLt → m.Pairwise cellLt → (∀ c, c ∈ l ↔ c ∈ m) → l = m
  | [], [], _, _, _ => rfl
  | [], b :: m, _, _, h => absurd ((h b).2 (List.mem_cons_self ..)) (by simp)
  | a :: l, [], _, _, h => absurd ((h a).1 (List.mem_cons_self ..)) (by simp)
  | a :: l, b :: m, hl, hm, h => by
    obtain ⟨l1, l2⟩ := List.pairwise_cons.1 hl
    obtain ⟨m1, m2⟩ := List.pairwise_cons.1 hm
    have e : a = b := by
      rcases List.mem_cons.1 ((h a).1 (List.mem_cons_self ..)) with e | e
      · exact e
      · rcases List.mem_cons.1 ((h b).2 (List.mem_cons_self ..)) with e' | e'
        · exact e'.symm
        · exact absurd (l1 b e') (cellLt_asymm (m1 a e))
    subst e
    refine congrArg _ (cells_uniq l2 m2 fun c => ?_)
    constructor
    · intro hc
      rcases List.mem_cons.1 ((h c).1 (List.mem_cons_of_mem _ hc)) with e | e
      · subst e; exact absurd (l1 c hc) (cellLt_irr c)
      · exact e
    · intro hc
      rcases List.mem_cons.1 ((h c).2 (List.mem_cons_of_mem _ hc)) with e | e
      · subst e; exact absurd (m1 c hc) (cellLt_irr c)
      · exact e
def runsSum (R : List (Int × Int)) : Int := R.foldr (fun r s => r.2 + s) 0
theorem rowCells_len (q : Int) : ∀ {R : List (Int × Int)}, (∀ r ∈ R, 1 ≤ r.2) → ((rowCells R q).length : Int) = runsSum R
  | [], _ => rfl
  | r :: R, h => by
    have ih := rowCells_len q (R := R) fun s hs => h s (List.mem_cons_of_mem _ hs)
    have h1 := h r (List.mem_cons_self ..)
    unfold rowCells at ih ⊢
    rw [List.flatMap_cons, List.length_append]
    have h2 : (runCells q r).length = r.2.toNat := by unfold runCells; simp
    rw [h2]
    unfold runsSum at ih ⊢
    rw [List.foldr_cons, ← ih]
    omega
theorem bandCells_len (b : Band) (h : b.ok) : ((bandCells b).length : Int) = b.h * runsSum b.runs := by
  have key : ∀ (n : Nat) (y : Int), (((List.range n).flatMap fun (j : Nat) => rowCells b.runs (y + (j : Int))).length : Int) = n * runsSum b.runs := by
    intro n y
    induction n with
    | zero => simp
    | succ n ih =>
      rw [List.range_succ, List.flatMap_append, List.length_append]
      have := rowCells_len (y + (n : Int)) h.2.2.2
      simp only [List.flatMap_cons, List.flatMap_nil, List.append_nil, Int.natCast_add, ih, this, Int.add_mul, Int.one_mul, Int.natCast_one]
  have := key b.h.toNat b.y
  have h1 := h.1
  rw [Int.toNat_of_nonneg (by omega)] at this
  exact this
theorem wsum_append : ∀ (k l : List Rc), wsum (k ++ l) = wsum k + wsum l
  | [], l => by unfold wsum; simp
  | t :: k, l => by
    have ih := wsum_append k l
    unfold wsum at ih ⊢
    rw [List.cons_append, List.foldr_cons, List.foldr_cons, ih]
    omega
theorem wsum_band (b : Band) : wsum b.flat = b.h * runsSum b.runs := by
  unfold Band.flat
  induction b.runs with
  | nil => unfold wsum runsSum; simp
  | cons r R ih =>
    unfold wsum runsSum at ih ⊢
    rw [List.map_cons, List.foldr_cons, List.foldr_cons, ih, Int.mul_add, Int.mul_comm r.2]
theorem allCells_len : ∀ {l : List Band}, (∀ b ∈ l, b.ok) → ((allCells l).length : Int) = wsum (flat l)
  | [], _ => rfl
  | b :: l, h => by
    have ih := allCells_len (l := l) fun c hc => h c (List.mem_cons_of_mem _ hc)
    rw [flat_cons, wsum_append, wsum_band, ← ih, ← bandCells_len b (h b (List.mem_cons_self ..))]
    unfold allCells
    rw [List.flatMap_cons, List.length_append]
    omega
theorem inc_len : ∀ {l : List Int} {a b : Int}, l.Pairwise (· < ·) → (∀ x ∈ l, a ≤ x ∧ x < b) → a ≤ b → (l.length : Int) ≤ b - a
  | [], a, b, _, _, h => by simp; omega
  | x :: l, a, b, hp, hm, h => by
    obtain ⟨h1, h2⟩ := List.pairwise_cons.1 hp
    have hx := hm x (List.mem_cons_self ..)
    have := inc_len (l := l) (a := x + 1) (b := b) h2 (fun y hy => ⟨h1 y hy, (hm y (List.mem_cons_of_mem _ hy)).2⟩) (by omega)
    rw [List.length_cons]
    omega
/-- not more cells than a box of 64 columns and 64 rows holds. -/
theorem cells_box {l : List (Int × Int)} (h : l.Pairwise cellLt) (p q : Int) (hb : ∀ x y, (x, y) ∈ l → p ≤ x ∧ x < p + 64 ∧ q ≤ y ∧ y < q + 64) : l.length ≤ 4096 := by
  have h1 : (l.map fun c => (c.2 - q) * 64 + (c.1 - p)).Pairwise (· < ·) := by
    rw [List.pairwise_map]
    refine List.Pairwise.imp_of_mem ?_ h
    rintro ⟨x, y⟩ ⟨x', y'⟩ hx hy hlt
    have a1 := hb x y hx
    have a2 := hb x' y' hy
    unfold cellLt at hlt
    simp only at *
    omega
  have h2 := inc_len (a := 0) (b := 4096) h1 (by
    intro v hv
    obtain ⟨⟨x, y⟩, hm, rfl⟩ := List.mem_map.1 hv
    have a1 := hb x y hm
    simp only
    omega) (by omega)
  rw [List.length_map] at h2
  omega
end

section
set_option maxHeartbeats 400000
set_option linter.unusedVariables false
/-! The area of a canonical list is bounded. -/
theorem sumI_le (f : Int → Int) (a c : Int) (hf : ∀ x, 0 ≤ f x ∧ f x ≤ c) : ∀ n : Nat, 0 ≤ sumI f a n ∧ sumI f a n ≤ n * c
  | 0 => by unfold sumI; simp
  | n + 1 => by
    have ih := sumI_le f a c hf n
    have h1 := hf (a + n)
    have h2 : ((n + 1 : Nat) : Int) * c = n * c + c := by rw [Int.natCast_add, Int.add_mul]; simp
    rw [h2]
    unfold sumI
    omega
theorem areaN_le (S : Pix) (n : Nat) : 0 ≤ areaN S n ∧ areaN S n ≤ n * (n * 1) := by
  unfold areaN
  refine sumI_le _ _ _ (fun q => sumI_le _ _ _ (fun p => ?_) n) n
  unfold ind
  split <;> omega
theorem areaN_bd (S : Pix) (n : Nat) (hn : (n : Int) = 2097152) : 0 ≤ areaN S n ∧ areaN S n ≤ 4398046511104 := by
  have h := areaN_le S n
  rw [hn] at h
  omega
theorem areaS_le (S : Pix) : 0 ≤ areaS S ∧ areaS S ≤ 4398046511104 := areaN_bd S _ rfl
theorem wsum_take_bd {l : List Rc} (hw : ∀ t ∈ l, t.inW) (ha : Apart l) (k : Nat) : 0 ≤ wsum (l.take k) ∧ wsum (l.take k) ≤ 4398046511104 := by
  rw [wsum_area (l := l.take k) (fun t ht => hw t (List.mem_of_mem_take ht)) (List.Pairwise.sublist (List.take_sublist k l) ha)]
  exact areaS_le _
end

section
open Go.RowKit
set_option maxHeartbeats 400000
set_option linter.unusedVariables false

theorem canon_pos {l : List Rc} (h : Canon l) : ∀ t ∈ l, 1 ≤ t.w ∧ 1 ≤ t.h := by
  obtain ⟨bs, hb, rfl⟩ := h
  intro t ht
  obtain ⟨b, hbm, ht⟩ := List.mem_flatMap.1 ht
  obtain ⟨r, hr, rfl⟩ := List.mem_map.1 ht
  have := hb.2 b hbm
  exact ⟨this.2.2.2 r hr, this.1⟩
/-- no element of a canonical list is empty whose pixels lie in the world. -/
theorem canon_ne {l : List Rc} (h : Canon l) (hs : ∀ p q, setL l p q → inW p q) : ∀ t ∈ l, t.emp = false := by
  intro t ht
  obtain ⟨h1, h2⟩ := canon_pos h t ht
  have a := hs t.x t.y ⟨t, ht, by unfold inR; omega⟩
  have b := hs (t.x + t.w - 1) (t.y + t.h - 1) ⟨t, ht, by unfold inR; omega⟩
  unfold inW at a b
  exact ne_of t (by omega)
theorem set_inW {l : List Rc} (h : ∀ t ∈ l, t.emp = false) {p q : Int} (hp : setL l p q) : inW p q := by
  obtain ⟨t, ht, hin⟩ := hp
  exact inR_world (h t ht) hin
theorem inside_or {how : Int} {a b : List Rc} {p q : Int} (h : insideF how a b p q = true) : setL a p q ∨ setL b p q := by
  have : setB a p q = true ∨ setB b p q = true := by
    unfold insideF at h
    split at h
    · simpa using h
    · split at h
      · simp only [Bool.and_eq_true] at h
        exact Or.inl h.1
      · simp only [Bool.and_eq_true] at h
        exact Or.inl h.1
  rcases this with h | h
  · exact Or.inl ((setB_iff _ _ _).1 h)
  · exact Or.inr ((setB_iff _ _ _).1 h)
theorem build_ne {a b : List Rc} (how : Int) (ha : ∀ t ∈ a, t.emp = false) (hb : ∀ t ∈ b, t.emp = false) : ∀ t ∈ buildF a b how, t.emp = false := by
  obtain ⟨h1, h2⟩ := buildF_ok a b how
  refine canon_ne h1 fun p q hp => ?_
  rcases inside_or ((h2 p q).1 hp) with h | h
  · exact set_inW ha h
  · exact set_inW hb h
theorem ne_inW {t : Rc} (h : t.emp = false) : t.inW := by
  have := ne_ways t h
  unfold Rc.inW
  omega
theorem area_wh {t : Rc} (h : t.emp = false) : t.area = t.w * t.h := by
  have hw := ne_ways t h
  rw [area_ne t h]
  obtain ⟨e1, e2, e3, e4, _⟩ := hw
  rw [e1, e2, e3, e4, show t.x + t.w - 1 - t.x + 1 = t.w by omega, show t.y + t.h - 1 - t.y + 1 = t.h by omega]
theorem wsum_succ (L : List Rc) (k : Nat) (hk : k < L.length) : wsum (L.take (k + 1)) = wsum (L.take k) + (L.getD k Rc.zero).w * (L.getD k Rc.zero).h := by
  have e : L.getD k Rc.zero = L[k] := by rw [List.getD_eq_getElem?_getD, List.getElem?_eq_getElem hk]; rfl
  rw [e, List.take_succ_eq_append_getElem hk, wsum_append]
  simp [wsum]
theorem runStep_len (T : Int → Bool) (R : List (Int × Int)) (x x' : Int) : (runStep T R x x').length ≤ R.length + 1 := by
  unfold runStep
  split
  · split
    · split
      · simp; try omega
      · simp
    · simp
  · omega
theorem runsF_len (T : Int → Bool) (xs : List Int) : ∀ k, (runsF T xs k).length ≤ k
  | 0 => Nat.le_refl _
  | k + 1 => Nat.le_trans (runStep_len T _ _ _) (Nat.succ_le_succ (runsF_len T xs k))
theorem insU_le (x : Int) : ∀ l : List Int, (insU x l).length ≤ l.length + 1
  | [] => Nat.le_refl _
  | y :: l => by
    have := insU_le x l
    unfold insU
    split
    · simp only [List.length_cons]
      omega
    · split
      · simp
      · simp
theorem sortedF_len (l : List Int) : (sortedF l).length ≤ l.length := by
  have : ∀ (l s : List Int), (l.foldl (fun s x => insU x s) s).length ≤ s.length + l.length := by
    intro l
    induction l with
    | nil => intro s; exact Nat.le_refl _
    | cons x l ih =>
      intro s
      have h1 := ih (insU x s)
      have h2 := insU_le x s
      rw [List.foldl_cons, List.length_cons]
      omega
  have := this l []
  simpa [sortedF] using this
theorem bandsF_len (T : Int → Int → Bool) (xs ys : List Int) : ∀ k, (flat (bandsF T xs ys k)).length ≤ k * xs.length
  | 0 => by simp [bandsF, flat]
  | k + 1 => by
    have h1 := bandsF_len T xs ys k
    have h2 : (rowF T xs (ys.getD k 0)).length ≤ xs.length - 1 := runsF_len _ _ _
    have h3 := bandStep_len (bs := bandsF T xs ys k) (R := rowF T xs (ys.getD k 0)) (y := ys.getD k 0) (y' := ys.getD (k + 1) 0)
    show (flat (bandStep _ _ _ _)).length ≤ _
    rw [Nat.succ_mul]
    omega
theorem coords_len (l : List Rc) : (coordsX l).length = l.length * 2 ∧ (coordsY l).length = l.length * 2 := by
  induction l with
  | nil => exact ⟨rfl, rfl⟩
  | cons t l ih =>
    obtain ⟨h1, h2⟩ := ih
    have e1 : coordsX (t :: l) = [t.x, t.x + t.w] ++ coordsX l := rfl
    have e2 : coordsY (t :: l) = [t.y, t.y + t.h] ++ coordsY l := rfl
    rw [e1, e2, List.length_append, List.length_append, h1, h2]
    simp
    omega
theorem build_len (a b : List Rc) (how : Int) (ha : a.length ≤ 256) (hb : b.length ≤ 256) : (buildF a b how).length ≤ 1048576 := by
  unfold buildF cellsF
  have h1 := sortedF_len (coordsX a ++ coordsX b)
  have h2 := sortedF_len (coordsY a ++ coordsY b)
  rw [List.length_append, (coords_len a).1, (coords_len b).1] at h1
  rw [List.length_append, (coords_len a).2, (coords_len b).2] at h2
  have h3 := bandsF_len (insideF how a b) (sortedF (coordsX a ++ coordsX b)) (sortedF (coordsY a ++ coordsY b)) ((sortedF (coordsY a ++ coordsY b)).length - 1)
  have h4 := Nat.mul_le_mul (show (sortedF (coordsY a ++ coordsY b)).length - 1 ≤ 1024 by omega) (show (sortedF (coordsX a ++ coordsX b)).length ≤ 1024 by omega)
  omega
theorem part_self {l : List Rc} (h : ∀ t ∈ l, t.emp = false) (hl : l.length ≤ 256) : partF l = l := by
  unfold partF kep
  rw [List.take_of_length_le hl, List.filter_eq_self]
  intro t ht
  rw [h t ht]
  rfl
end

section
open Go.RowKit
set_option maxHeartbeats 400000
set_option linter.unusedVariables false
theorem wsum_take (l : List Rc) (k : Nat) (h : k < l.length) : wsum (l.take (k + 1)) = wsum (l.take k) + (l.getD k Rc.zero).w * (l.getD k Rc.zero).h := by
  rw [List.take_succ_eq_append_getElem h, wsum_append, List.getD_eq_getElem?_getD, List.getElem?_eq_getElem h]
  unfold wsum
  simp
set_option maxHeartbeats 8000000 in
set_option maxRecDepth 100000 in
theorem gArea (v : Value) (l : List Rc) (w : World) (pm : ∀ t ∈ l, 0 ≤ t.w * t.h ∧ t.w * t.h ≤ 4398046511104) (ps : ∀ k, k ≤ l.length → 0 ≤ wsum (l.take k) ∧ wsum (l.take k) ≤ 4398046511104)
    (cO : ∀ W, Below w.heap.size w W → Calls Try.prog 13 #[v] W fun e w' => ∃ u, e = .returned u ∧ Below W.heap.size W w' ∧ w'.ownsRow W.heap.size 33 4 u l.length (cellsR l)) :
    Calls Try.prog 26 #[v] w fun e w' => e = .returned (.int .i64 (wsum l)) ∧ Below w.heap.size w w' := by
  obtain ⟨n, hn⟩ : ∃ n, l.length = n := ⟨_, rfl⟩
  rw [hn] at cO ps
  have CO := Lib.hid cO
  have PM := Lib.hid pm
  have PS := Lib.hid ps
  have HN := Lib.hid hn
  clear cO pm ps hn
  go_enter Try.func26, Try.ntmps26
  go_wp2_with (first | (go_at_call 13; (with_reducible refine (CO.out _ (by go_grown)).mono ?_); rintro e w1 ⟨u, rfl, hg, hown⟩; obtain ⟨ao, cap, rfl, hao, hcap, hcap2⟩ := row_form hown))
  have hB1 : Below w.heap.size w w1 := by first | exact hg | exact Below.trans (by go_grown) (hg.mono (by simp))

  have rf0 : (∀ g, ao = some ⟨g, 0, none⟩ → ∀ k, k < n → w1.cell? ⟨g, k * 4 + 2, none⟩ = some (.int .i64 (l.getD k Rc.zero).w) ∧ w1.cell? ⟨g, k * 4 + 3, none⟩ = some (.int .i64 (l.getD k Rc.zero).h)) := (by
    rintro g rfl k hk
    obtain ⟨e0, e1, e2, e3⟩ := cellsR_at l k (by rw [HN.out]; exact hk)
    exact ⟨(hown.cellAt (k * 4 + 2) (by omega)).trans e2, (hown.cellAt (k * 4 + 3) (by omega)).trans e3⟩)
  have RF := Lib.hid rf0
  have HA := Lib.hid hao
  clear hown hao hg rf0
  go_loopw [3, 10] (fun s i wr => ∃ k : Nat, k ≤ n ∧ i = .int .i64 (k : Int) ∧ s = .int .i64 (wsum (l.take k)) ∧ ∃ q, wr = w1.drewN q) (fun _ i _ => (n - (intOf i).toNat))
  case atStart => exact ⟨0, by omega, rfl, rfl, 0, rfl⟩
  case round =>
    obtain ⟨k, hk, rfl, rfl, q, rfl⟩ := hrel
    by_cases hlt : k < n
    · obtain ⟨g, rfl⟩ := HA.out (by omega)
      obtain ⟨e2, e3⟩ := RF.out g rfl k hlt
      have st := wsum_take l k (by rw [HN.out]; exact hlt)
      have b1 := PM.out _ (getR_mem (L := l) (k := k) (by rw [HN.out]; exact hlt))
      have b2 := PS.out k (by omega)
      generalize l.getD k Rc.zero = S at *
      have kk : IntKind.i64.wrap ((k : Int) + 1) = (k : Int) + 1 := IntWalk.i64_in _ (by have hcm := hcap2; unfold maxLen at hcm; omega)
      have k1 : IntKind.i64.wrap (S.w * S.h) = S.w * S.h := IntWalk.i64_in _ (by omega)
      have k2 : IntKind.i64.wrap (wsum (l.take k) + S.w * S.h) = wsum (l.take k) + S.w * S.h := IntWalk.i64_in _ (by omega)
      have ST := Lib.hid st
      clear st b1 b2
      go_wp2
      go_quiet (fail)
      go_wp2
      go_roundw
      case rel => exact ⟨k + 1, by omega, by simp, by rw [ST.out], _, rfl⟩
      case measure => simp [intOf]; omega
    · obtain rfl : k = n := by omega
      clear hlt
      have hT : l.take l.length = l := List.take_length
      rw [HN.out] at hT
      rw [hT]
      clear hT
      go_wp2
      go_ret
      exact ⟨rfl, by first | exact hB1 | exact hB1.trans ((Gr.drewN (Gr.refl w1) q).1.mono hB1.size)⟩
end

end Go.Proofs.Ythknkgblddoapaa
