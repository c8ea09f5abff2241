import Derived.Test.YthknkgblddoapaaProg
import Derived.WalkKit
import Derived.WalkLawsBesides
import Derived.Outline
import Derived.Lib.Walk
import Derived.Deep.QuietTactic
import Derived.BigQuiet
import Derived.RowKit3
import Derived.Deep.LoopGhost
import Derived.Great.Walk
import Derived.Great.BuildSlice
import Derived.Laws.Rows
import Derived.Laws.Tables
import Derived.Laws.CopyOwn
import Derived.Lib.Hide
import Derived.Handy
import Derived.Deep.Onto
import Derived.RegionTactic
import Derived.ChangeAlike
import Derived.Deep.RegionHeld3
import Derived.StillTailTactics
import Derived.Deep.RegionLaw
import Derived.Test.YthknkgblddoapaaMA
import Derived.Test.YthknkgblddoapaaMB
import Derived.Test.YthknkgblddoapaaMC
import Derived.Test.YthknkgblddoapaaME
import Derived.Test.YthknkgblddoapaaMG
import Derived.Test.YthknkgblddoapaaMH
import Derived.Test.YthknkgblddoapaaH1
import Derived.Test.YthknkgblddoapaaH2
namespace Go.Proofs.Ythknkgblddoapaa
open Go.RowKit
set_option maxHeartbeats 400000
set_option linter.unusedVariables false
theorem gb_argI {W : World} {base : Nat} {v : Value} {l : List Int} (h : W.ownsRow base 3 1 v l.length (cellsI l)) : argI W W.heap.size v l := by
  obtain ⟨ao, cap, rfl, hao, _, _⟩ := row_form h
  refine ⟨ao, cap, rfl, fun hl => ?_⟩
  obtain ⟨g, rfl⟩ := hao hl
  refine ⟨g, 0, rfl, (h.lt g rfl).2, fun k hk => ?_⟩
  rw [Nat.zero_add]
  exact (h.cellAt k (by omega)).trans (cellsI_at l k hk)
theorem gb_news2 {W : World} {G : Nat} {x y : Value} (h0 : W.cell? ⟨G, 0, none⟩ = some x) (h1 : W.cell? ⟨G, 1, none⟩ = some y) : ∀ j u, [x, y][j]? = some u → W.cell? ((⟨G, 0, none⟩ : Addr).add j) = some u := by
  intro j u hj
  match j, hj with
  | 0, hj => simp at hj; subst hj; simpa [Addr.add] using h0
  | 1, hj => simp at hj; subst hj; simpa [Addr.add] using h1
theorem gb_apart_symm {v u : Value} (h : Apart2 v u) : Apart2 u v := by
  unfold Apart2 at *
  cases hu : u.ownBlock with
  | none => exact Or.inl rfl
  | some g =>
    right
    rcases h with h | h
    · rw [h]
      simp
    · intro e
      exact h (by rw [hu]; exact e.symm)
theorem coordsX_snoc (l : List Rc) (k : Nat) (h : k < l.length) : coordsX (l.take (k + 1)) = coordsX (l.take k) ++ [(l.getD k Rc.zero).x, (l.getD k Rc.zero).x + (l.getD k Rc.zero).w] := by
  unfold coordsX
  rw [List.take_succ_eq_append_getElem h, List.flatMap_append, List.getD_eq_getElem?_getD, List.getElem?_eq_getElem h]
  simp
theorem coordsY_snoc (l : List Rc) (k : Nat) (h : k < l.length) : coordsY (l.take (k + 1)) = coordsY (l.take k) ++ [(l.getD k Rc.zero).y, (l.getD k Rc.zero).y + (l.getD k Rc.zero).h] := by
  unfold coordsY
  rw [List.take_succ_eq_append_getElem h, List.flatMap_append, List.getD_eq_getElem?_getD, List.getElem?_eq_getElem h]
  simp
theorem coordsX_len : ∀ l : List Rc, (coordsX l).length = 2 * l.length
  | [] => rfl
  | t :: l => by
    have ih := coordsX_len l
    unfold coordsX at ih ⊢
    rw [List.flatMap_cons, List.length_append, ih, List.length_cons]
    simp
    omega
theorem coordsY_len : ∀ l : List Rc, (coordsY l).length = 2 * l.length
  | [] => rfl
  | t :: l => by
    have ih := coordsY_len l
    unfold coordsY at ih ⊢
    rw [List.flatMap_cons, List.length_append, ih, List.length_cons]
    simp
    omega
theorem gb_mod {t : Rc} (h : t.emp = false) : t.mod := by
  have := ne_ways t h
  unfold Rc.mod
  omega
theorem gb_rowI {W : World} {base : Nat} {v : Value} {l : List Int} (h : W.ownsRow base 3 1 v l.length (cellsI l)) : ∃ ao cap, v = .slice ao l.length cap ∧ (0 < l.length → ∃ g, ao = some ⟨g, 0, none⟩ ∧ g < W.heap.size ∧ ∀ k, k < l.length → W.cell? ⟨g, k, none⟩ = some (.int .i64 (l.getD k 0))) := by
  obtain ⟨ao, cap, rfl, hao, _, _⟩ := row_form h
  refine ⟨ao, cap, rfl, fun hl => ?_⟩
  obtain ⟨g, rfl⟩ := hao hl
  refine ⟨g, rfl, (h.lt g rfl).2, fun k hk => ?_⟩
  exact (h.cellAt k (by omega)).trans (cellsI_at l k hk)
theorem gb_news4 {W : World} {G : Nat} {x y z t : Value} (h0 : W.cell? ⟨G, 0, none⟩ = some x) (h1 : W.cell? ⟨G, 1, none⟩ = some y) (h2 : W.cell? ⟨G, 2, none⟩ = some z) (h3 : W.cell? ⟨G, 3, none⟩ = some t) : ∀ j u, [x, y, z, t][j]? = some u → W.cell? ((⟨G, 0, none⟩ : Addr).add j) = some u := by
  intro j u hj
  match j, hj with
  | 0, hj => simp at hj; subst hj; simpa [Addr.add] using h0
  | 1, hj => simp at hj; subst hj; simpa [Addr.add] using h1
  | 2, hj => simp at hj; subst hj; simpa [Addr.add] using h2
  | 3, hj => simp at hj; subst hj; simpa [Addr.add] using h3
theorem gb_newc (W : World) (x y z t : Value) (e : TypeId) : ∀ j u, [x, y, z, t][j]? = some u → (W.alloc (.cells #[x, y, z, t] e)).cell? ((⟨W.heap.size, 0, none⟩ : Addr).add j) = some u :=
  gb_news4 (by simp) (by simp) (by simp) (by simp)
theorem gb_snoc (y h x w : Int) (R : List (Int × Int)) : Band.flat ⟨y, h, R ++ [(x, w)]⟩ = Band.flat ⟨y, h, R⟩ ++ [⟨x, y, w, h⟩] := flat_snoc ⟨y, h, R⟩ x w
theorem gb_updY (q : List Rc) (d : Int) (k : Nat) (hk : k < q.length) : (cellsR (updR [] q d k))[k * 4 + 1]? = some (.int .i64 (q.getD k Rc.zero).y) := by
  obtain ⟨e1, _⟩ := updR_succ [] q d k hk
  have hl : (([] : List Rc) ++ (q.take k).map (addH d)).length = k := by simp; omega
  have hg : (updR [] q d k).getD k Rc.zero = q.getD k Rc.zero := by
    rw [e1, List.getD_eq_getElem?_getD, List.getElem?_append_right (by omega), hl, Nat.sub_self]
    rfl
  have := (cellsR_at (updR [] q d k) k (by rw [updR_len]; simp; omega)).2.1
  rw [hg] at this
  exact this
theorem gb_flat0 {b : Band} (hb : b.runs ≠ []) : 0 < b.flat.length ∧ (cellsR b.flat)[1]? = some (.int .i64 b.y) ∧ (cellsR b.flat)[3]? = some (.int .i64 b.h) := by
  cases hR : b.runs with
  | nil => exact absurd hR hb
  | cons r Q =>
    unfold Band.flat
    rw [hR]
    exact ⟨by simp, rfl, rfl⟩
theorem gb_flatYH (b : Band) (k : Nat) (hk : k < b.flat.length) : (b.flat.getD k Rc.zero).y = b.y ∧ (b.flat.getD k Rc.zero).h = b.h := by
  have hm := getR_mem (L := b.flat) (k := k) hk
  obtain ⟨r, _, e⟩ := List.mem_map.1 hm
  rw [← e]
  exact ⟨rfl, rfl⟩
theorem gb_bl (y h : Int) (R : List (Int × Int)) : (Band.flat ⟨y, h, R⟩).length = R.length := by unfold Band.flat; exact List.length_map ..
theorem gb_flat (bs : List Band) : flat bs.dropLast ++ beforeOf bs = flat bs := by
  rcases List.eq_nil_or_concat bs with rfl | ⟨pre, b, rfl⟩
  · rfl
  · rw [List.concat_eq_append, List.dropLast_concat, flat_snocB]
    unfold beforeOf
    rw [List.getLast?_concat]
theorem gb_before (pre : List Band) (b : Band) : beforeOf (pre ++ [b]) = b.flat := by
  unfold beforeOf
  rw [List.getLast?_concat]
/-- the four ways of a row. -/
theorem gb_ways {bs : List Band} {R : List (Int × Int)} {y y' : Int} (hR : R ≠ []) : (bs = [] ∧ bandStep bs R y y' = bs ++ [⟨y, y' - y, R⟩]) ∨
    (∃ pre b, bs = pre ++ [b] ∧ b.y + b.h ≠ y ∧ bandStep bs R y y' = bs ++ [⟨y, y' - y, R⟩]) ∨ (∃ pre b, bs = pre ++ [b] ∧ b.y + b.h = y ∧ b.runs ≠ R ∧ bandStep bs R y y' = bs ++ [⟨y, y' - y, R⟩]) ∨
    (∃ pre b, bs = pre ++ [b] ∧ b.y + b.h = y ∧ b.runs = R ∧ bandStep bs R y y' = pre ++ [⟨b.y, b.h + (y' - y), b.runs⟩]) := by
  obtain ⟨r, Q, rfl⟩ : ∃ r Q, R = r :: Q := by cases R with | nil => exact absurd rfl hR | cons r Q => exact ⟨r, Q, rfl⟩
  rcases List.eq_nil_or_concat bs with rfl | ⟨pre, b, rfl⟩
  · exact Or.inl ⟨rfl, rfl⟩
  · rw [List.concat_eq_append]
    unfold bandStep
    rw [List.getLast?_concat]
    simp only
    by_cases h1 : b.y + b.h = y
    · by_cases h2 : b.runs = r :: Q
      · refine Or.inr (Or.inr (Or.inr ⟨pre, b, rfl, h1, h2, ?_⟩))
        rw [if_pos ⟨h1, h2⟩, List.dropLast_concat]
        congr 3
        omega
      · refine Or.inr (Or.inr (Or.inl ⟨pre, b, rfl, h1, h2, ?_⟩))
        rw [if_neg (fun h => h2 h.2)]
    · refine Or.inr (Or.inl ⟨pre, b, rfl, h1, ?_⟩)
      rw [if_neg (fun h => h1 h.1)]
set_option maxHeartbeats 40000000 in
set_option maxRecDepth 100000 in
theorem gBuild (u v : Value) (a b : List Rc) (how : Int) (w : World) (na : ∀ t ∈ a, t.emp = false) (nb : ∀ t ∈ b, t.emp = false) (la : a.length ≤ 256) (lb : b.length ≤ 256) (hh : how = 0 ∨ how = 1 ∨ how = 2)
    (ga : argR w w.heap.size u a) (gb : argR w w.heap.size v b) :
    Calls Try.prog 35 #[u, v, .int .i64 how] w fun e w' => ∃ x, e = .returned x ∧ Below w.heap.size w w' ∧ w'.ownsRow w.heap.size 33 4 x (buildF a b how).length (cellsR (buildF a b how)) := by
  have NA := Lib.hid na
  have NB := Lib.hid nb
  have ha : ∀ t ∈ a, t.mod := fun t ht => gb_mod (na t ht)
  have hb : ∀ t ∈ b, t.mod := fun t ht => gb_mod (nb t ht)
  have GA := Lib.hid ga
  have GB := Lib.hid gb
  have HHOW := Lib.hid hh
  clear na nb hh
  obtain ⟨ao, cap, rfl, h⟩ := ga
  obtain ⟨bo, cap2, rfl, h'⟩ := gb
  obtain ⟨n, hn⟩ : ∃ n, a.length = n := ⟨_, rfl⟩
  obtain ⟨m, hm⟩ : ∃ m, b.length = m := ⟨_, rfl⟩
  rw [hn] at h la ⊢
  rw [hm] at h' lb ⊢
  have HN := Lib.hid hn
  have HM := Lib.hid hm
  have H := Lib.hid h
  have H' := Lib.hid h'
  have HA := Lib.hid ha
  have HB := Lib.hid hb
  clear h h' hn hm ha hb
  obtain ⟨i0, hi, hz0', hz1, hz2⟩ := info_parts infoI
  go_enter Try.func35, Try.ntmps35
  go_wp2
  go_loopw [7, 8, 20] (fun s t i wr => ∃ k : Nat, k ≤ n ∧ i = .int .i64 (k : Int) ∧ wr.ownsRow w.heap.size 3 1 s (coordsX (a.take k)).length (cellsI (coordsX (a.take k))) ∧ wr.ownsRow w.heap.size 3 1 t (coordsY (a.take k)).length (cellsI (coordsY (a.take k))) ∧ Apart2 t s ∧ Below w.heap.size w wr) (fun _ _ i _ => (n - (intOf i).toNat))
  case atStart => exact ⟨0, by omega, rfl, World.ownsRow_nil _ _ _ _, World.ownsRow_nil _ _ _ _, Or.inl rfl, Below.refl _ _⟩
  case round =>
    obtain ⟨k, hk, rfl, ox, oy, hap, hB0⟩ := hrel
    by_cases hlt : k < n
    · as_aux_lemma =>
        obtain ⟨g, o, rfl, hblk, hc⟩ := H.out (by omega)
        obtain ⟨p0, p1, p2, p3⟩ := hc k hlt
        obtain ⟨⟨b1, b2⟩, ⟨b3, b4⟩, ⟨b5, b6⟩, ⟨b7, b8⟩⟩ := HA.out _ (getR_mem (L := a) (k := k) (by rw [HN.out]; exact hlt))
        have sx := coordsX_snoc a k (by rw [HN.out]; exact hlt)
        have sy := coordsY_snoc a k (by rw [HN.out]; exact hlt)
        have lx := coordsX_len (a.take k)
        have ly := coordsY_len (a.take k)
        have ltk := List.length_take_le k a
        generalize a.getD k Rc.zero = S at *
        generalize coordsX (a.take k) = X at *
        generalize coordsY (a.take k) = Y at *
        have SX := Lib.hid sx
        have SY := Lib.hid sy
        have k1 : IntKind.i64.wrap (S.x + S.w) = S.x + S.w := IntWalk.i64_in _ (by omega)
        have k2 : IntKind.i64.wrap (S.y + S.h) = S.y + S.h := IntWalk.i64_in _ (by omega)
        have kk : IntKind.i64.wrap ((k : Int) + 1) = (k : Int) + 1 := IntWalk.i64_in _ (by omega)
        have mk : ∀ W, Below w.heap.size w W → (fun W => Below w.heap.size w W ∧ W.cell? ⟨g, o + k * 4, none⟩ = some (.int .i64 S.x) ∧ W.cell? ⟨g, o + k * 4 + 1, none⟩ = some (.int .i64 S.y) ∧ W.cell? ⟨g, o + k * 4 + 2, none⟩ = some (.int .i64 S.w) ∧ W.cell? ⟨g, o + k * 4 + 3, none⟩ = some (.int .i64 S.h)) W := fun W hW => ⟨hW, (hW.cell (p := ⟨g, o + k * 4, none⟩) hblk).trans p0, (hW.cell (p := ⟨g, o + k * 4 + 1, none⟩) hblk).trans p1, (hW.cell (p := ⟨g, o + k * 4 + 2, none⟩) hblk).trans p2, (hW.cell (p := ⟨g, o + k * 4 + 3, none⟩) hblk).trans p3⟩
        have MK := Lib.hid mk
        clear sx sy hc mk
        go_wp2
        go_region_held3 (fun W => Below w.heap.size w W ∧ W.cell? ⟨g, o + k * 4, none⟩ = some (.int .i64 S.x) ∧ W.cell? ⟨g, o + k * 4 + 1, none⟩ = some (.int .i64 S.y) ∧ W.cell? ⟨g, o + k * 4 + 2, none⟩ = some (.int .i64 S.w) ∧ W.cell? ⟨g, o + k * 4 + 3, none⟩ = some (.int .i64 S.h))
          (first | exact MK.out _ hB0.drew | assumption | exact MK.out _ hB4 | exact MK.out _ hB3 | exact MK.out _ (Below.alloc (And.left (by assumption)) (And.left (by assumption) : Below w.heap.size w _).size _))
          (first | (refine step_append_two _ rfl _ _ 54 rfl w.heap.size 3 i0 (.int .i64 0) 1 8 Try.underlying54 hi hz0' hz1 hz2 rfl (by decide) _ _ (cellsI X) rfl (by first | exact ox.drew.alloc _ | exact (ox.drew.alloc _).alloc _) ⟨_, 0, none⟩ 2 2 [.int .i64 S.x, .int .i64 (S.x + S.w)] rfl rfl (gb_news2 (by first | (simp; done) | (simp [go_sem]; done) | exact (hk3 _ (by first | (simp; done) | (simp; omega)) (by first | (simp; done) | (simp; omega))).trans (by simp [go_sem]) | exact (World.cell?_alloc_past _ _ _ (by simp; omega)).trans (by simp [go_sem])) (by first | (simp; done) | (simp [go_sem]; done) | exact (hk3 _ (by first | (simp; done) | (simp; omega)) (by first | (simp; done) | (simp; omega))).trans (by simp [go_sem]) | exact (World.cell?_alloc_past _ _ _ (by simp; omega)).trans (by simp [go_sem]))) (by intro u hu; simp at hu; rcases hu with rfl | rfl <;> rfl) (by unfold maxLen; omega) (by omega) (And.left (by assumption) : Below w.heap.size w _).size ?_; intro v3 w3 hown3 hgrow hmv; have hB3 : Below w.heap.size w w3 := Below.grown (And.left (by assumption)) hgrow (And.left (by assumption) : Below w.heap.size w _).size (fun j hj => (ox.lt j hj).1); have oy3 := World.ownsRow.kept (by first | exact oy.drew.alloc _ | exact (oy.drew.alloc _).alloc _) hgrow hap; have hap3 := apart_moved hap (by first | exact oy.drew.alloc _ | exact (oy.drew.alloc _).alloc _) hmv; have hk3 := fun (p : Addr) (h1 : wr.heap.size ≤ p.block) h2 => World.cell?_of_block (hgrow.block p.block h2 (fun e => by have := (ox.lt _ e.symm).2; omega))) | (refine step_append_two _ rfl _ _ 54 rfl w.heap.size 3 i0 (.int .i64 0) 1 8 Try.underlying54 hi hz0' hz1 hz2 rfl (by decide) _ _ (cellsI Y) rfl (by first | exact oy3 | exact oy3.alloc _) ⟨_, 0, none⟩ 2 2 [.int .i64 S.y, .int .i64 (S.y + S.h)] rfl rfl (gb_news2 (by first | (simp; done) | (simp [go_sem]; done) | exact (hk3 _ (by first | (simp; done) | (simp; omega)) (by first | (simp; done) | (simp; omega))).trans (by simp [go_sem]) | exact (World.cell?_alloc_past _ _ _ (by simp; omega)).trans (by simp [go_sem])) (by first | (simp; done) | (simp [go_sem]; done) | exact (hk3 _ (by first | (simp; done) | (simp; omega)) (by first | (simp; done) | (simp; omega))).trans (by simp [go_sem]) | exact (World.cell?_alloc_past _ _ _ (by simp; omega)).trans (by simp [go_sem]))) (by intro u hu; simp at hu; rcases hu with rfl | rfl <;> rfl) (by unfold maxLen; omega) (by omega) (And.left (by assumption) : Below w.heap.size w _).size ?_; intro v4 w4 hown4 hgrow4 hmv4; have hB4 : Below w.heap.size w w4 := Below.grown (And.left (by assumption)) hgrow4 (And.left (by assumption) : Below w.heap.size w _).size (fun j hj => (oy3.lt j hj).1); have ox4 := World.ownsRow.kept (by first | exact hown3 | exact hown3.alloc _) hgrow4 (gb_apart_symm hap3); have hap4 := gb_apart_symm (apart_moved (gb_apart_symm hap3) (by first | exact hown3 | exact hown3.alloc _) hmv4)))
        all_goals
          clear MK
          go_wp2
          go_roundw
          case rel => exact ⟨k + 1, by omega, by simp, by rw [SX.out, List.length_append, cellsI_append]; assumption, by rw [SY.out, List.length_append, cellsI_append]; assumption, by assumption, by assumption⟩
          case measure => simp [intOf]; omega
    · obtain rfl : n = k := by omega
      have HT := Lib.hid (show a.take n = a by rw [← HN.out, List.take_length])
      rw [HT.out] at ox oy
      go_wp2
      have lX0 := coordsX_len a
      have lY0 := coordsY_len a
      rw [HN.out] at lX0 lY0
      generalize hX0 : coordsX a = X0 at *
      generalize hY0 : coordsY a = Y0 at *
      have HXa := Lib.hid hX0
      have HYa := Lib.hid hY0
      clear hX0 hY0
      go_loopw [7, 8, 64] (fun s t i wr => ∃ k : Nat, k ≤ m ∧ i = .int .i64 (k : Int) ∧ wr.ownsRow w.heap.size 3 1 s (X0 ++ coordsX (b.take k)).length (cellsI (X0 ++ coordsX (b.take k))) ∧ wr.ownsRow w.heap.size 3 1 t (Y0 ++ coordsY (b.take k)).length (cellsI (Y0 ++ coordsY (b.take k))) ∧ Apart2 t s ∧ Below w.heap.size w wr) (fun _ _ i _ => (m - (intOf i).toNat))
      case atStart => exact ⟨0, by omega, rfl, by rw [show X0 ++ coordsX (b.take 0) = X0 by simp [coordsX]]; exact ox, by rw [show Y0 ++ coordsY (b.take 0) = Y0 by simp [coordsY]]; exact oy, hap, hB0⟩
      case round =>
        clear ox oy hap hB0
        obtain ⟨k, hk, rfl, ox, oy, hap, hB0⟩ := hrel
        by_cases hlt : k < m
        · as_aux_lemma =>
            obtain ⟨g, o, rfl, hblk, hc⟩ := H'.out (by omega)
            obtain ⟨p0, p1, p2, p3⟩ := hc k hlt
            obtain ⟨⟨b1, b2⟩, ⟨b3, b4⟩, ⟨b5, b6⟩, ⟨b7, b8⟩⟩ := HB.out _ (getR_mem (L := b) (k := k) (by rw [HM.out]; exact hlt))
            have sx := coordsX_snoc b k (by rw [HM.out]; exact hlt)
            have sy := coordsY_snoc b k (by rw [HM.out]; exact hlt)
            have lx := coordsX_len (b.take k)
            have ly := coordsY_len (b.take k)
            have ltk := List.length_take_le k b
            generalize b.getD k Rc.zero = S at *
            have sx := show X0 ++ coordsX (b.take (k + 1)) = (X0 ++ coordsX (b.take k)) ++ [S.x, S.x + S.w] by rw [sx, List.append_assoc]
            have sy := show Y0 ++ coordsY (b.take (k + 1)) = (Y0 ++ coordsY (b.take k)) ++ [S.y, S.y + S.h] by rw [sy, List.append_assoc]
            have lx2 : (X0 ++ coordsX (b.take k)).length = X0.length + (coordsX (b.take k)).length := List.length_append
            have ly2 : (Y0 ++ coordsY (b.take k)).length = Y0.length + (coordsY (b.take k)).length := List.length_append
            generalize X0 ++ coordsX (b.take k) = X at *
            generalize Y0 ++ coordsY (b.take k) = Y at *
            have SX := Lib.hid sx
            have SY := Lib.hid sy
            have k1 : IntKind.i64.wrap (S.x + S.w) = S.x + S.w := IntWalk.i64_in _ (by omega)
            have k2 : IntKind.i64.wrap (S.y + S.h) = S.y + S.h := IntWalk.i64_in _ (by omega)
            have kk : IntKind.i64.wrap ((k : Int) + 1) = (k : Int) + 1 := IntWalk.i64_in _ (by omega)
            have mk : ∀ W, Below w.heap.size w W → (fun W => Below w.heap.size w W ∧ W.cell? ⟨g, o + k * 4, none⟩ = some (.int .i64 S.x) ∧ W.cell? ⟨g, o + k * 4 + 1, none⟩ = some (.int .i64 S.y) ∧ W.cell? ⟨g, o + k * 4 + 2, none⟩ = some (.int .i64 S.w) ∧ W.cell? ⟨g, o + k * 4 + 3, none⟩ = some (.int .i64 S.h)) W := fun W hW => ⟨hW, (hW.cell (p := ⟨g, o + k * 4, none⟩) hblk).trans p0, (hW.cell (p := ⟨g, o + k * 4 + 1, none⟩) hblk).trans p1, (hW.cell (p := ⟨g, o + k * 4 + 2, none⟩) hblk).trans p2, (hW.cell (p := ⟨g, o + k * 4 + 3, none⟩) hblk).trans p3⟩
            have MK := Lib.hid mk
            clear sx sy hc mk
            go_wp2
            go_region_held3 (fun W => Below w.heap.size w W ∧ W.cell? ⟨g, o + k * 4, none⟩ = some (.int .i64 S.x) ∧ W.cell? ⟨g, o + k * 4 + 1, none⟩ = some (.int .i64 S.y) ∧ W.cell? ⟨g, o + k * 4 + 2, none⟩ = some (.int .i64 S.w) ∧ W.cell? ⟨g, o + k * 4 + 3, none⟩ = some (.int .i64 S.h))
              (first | exact MK.out _ hB0.drew | assumption | exact MK.out _ hB4 | exact MK.out _ hB3 | exact MK.out _ (Below.alloc (And.left (by assumption)) (And.left (by assumption) : Below w.heap.size w _).size _))
              (first | (refine step_append_two _ rfl _ _ 54 rfl w.heap.size 3 i0 (.int .i64 0) 1 8 Try.underlying54 hi hz0' hz1 hz2 rfl (by decide) _ _ (cellsI X) rfl (by first | exact ox.drew.alloc _ | exact (ox.drew.alloc _).alloc _) ⟨_, 0, none⟩ 2 2 [.int .i64 S.x, .int .i64 (S.x + S.w)] rfl rfl (gb_news2 (by first | (simp; done) | (simp [go_sem]; done) | exact (hk3 _ (by first | (simp; done) | (simp; omega)) (by first | (simp; done) | (simp; omega))).trans (by simp [go_sem]) | exact (World.cell?_alloc_past _ _ _ (by simp; omega)).trans (by simp [go_sem])) (by first | (simp; done) | (simp [go_sem]; done) | exact (hk3 _ (by first | (simp; done) | (simp; omega)) (by first | (simp; done) | (simp; omega))).trans (by simp [go_sem]) | exact (World.cell?_alloc_past _ _ _ (by simp; omega)).trans (by simp [go_sem]))) (by intro u hu; simp at hu; rcases hu with rfl | rfl <;> rfl) (by unfold maxLen; omega) (by omega) (And.left (by assumption) : Below w.heap.size w _).size ?_; intro v3 w3 hown3 hgrow hmv; have hB3 : Below w.heap.size w w3 := Below.grown (And.left (by assumption)) hgrow (And.left (by assumption) : Below w.heap.size w _).size (fun j hj => (ox.lt j hj).1); have oy3 := World.ownsRow.kept (by first | exact oy.drew.alloc _ | exact (oy.drew.alloc _).alloc _) hgrow hap; have hap3 := apart_moved hap (by first | exact oy.drew.alloc _ | exact (oy.drew.alloc _).alloc _) hmv; have hk3 := fun (p : Addr) (h1 : wr.heap.size ≤ p.block) h2 => World.cell?_of_block (hgrow.block p.block h2 (fun e => by have := (ox.lt _ e.symm).2; omega))) | (refine step_append_two _ rfl _ _ 54 rfl w.heap.size 3 i0 (.int .i64 0) 1 8 Try.underlying54 hi hz0' hz1 hz2 rfl (by decide) _ _ (cellsI Y) rfl (by first | exact oy3 | exact oy3.alloc _) ⟨_, 0, none⟩ 2 2 [.int .i64 S.y, .int .i64 (S.y + S.h)] rfl rfl (gb_news2 (by first | (simp; done) | (simp [go_sem]; done) | exact (hk3 _ (by first | (simp; done) | (simp; omega)) (by first | (simp; done) | (simp; omega))).trans (by simp [go_sem]) | exact (World.cell?_alloc_past _ _ _ (by simp; omega)).trans (by simp [go_sem])) (by first | (simp; done) | (simp [go_sem]; done) | exact (hk3 _ (by first | (simp; done) | (simp; omega)) (by first | (simp; done) | (simp; omega))).trans (by simp [go_sem]) | exact (World.cell?_alloc_past _ _ _ (by simp; omega)).trans (by simp [go_sem]))) (by intro u hu; simp at hu; rcases hu with rfl | rfl <;> rfl) (by unfold maxLen; omega) (by omega) (And.left (by assumption) : Below w.heap.size w _).size ?_; intro v4 w4 hown4 hgrow4 hmv4; have hB4 : Below w.heap.size w w4 := Below.grown (And.left (by assumption)) hgrow4 (And.left (by assumption) : Below w.heap.size w _).size (fun j hj => (oy3.lt j hj).1); have ox4 := World.ownsRow.kept (by first | exact hown3 | exact hown3.alloc _) hgrow4 (gb_apart_symm hap3); have hap4 := gb_apart_symm (apart_moved (gb_apart_symm hap3) (by first | exact hown3 | exact hown3.alloc _) hmv4)))
            all_goals
              clear MK
              go_wp2
              go_roundw
              case rel => exact ⟨k + 1, by omega, by simp, by rw [SX.out, List.length_append, cellsI_append]; assumption, by rw [SY.out, List.length_append, cellsI_append]; assumption, by assumption, by assumption⟩
              case measure => simp [intOf]; omega
        · obtain rfl : m = k := by omega
          have HT := Lib.hid (show b.take m = b by rw [← HM.out, List.take_length])
          rw [HT.out] at ox oy
          have lXY := coordsX_len b
          have lYY := coordsY_len b
          rw [HM.out] at lXY lYY
          have cx := gSorted _ (X0 ++ coordsX b) _ (by rw [List.length_append]; omega) (gb_argI ox)
          have CX := Lib.hid cx
          clear cx
          go_wp2_with (first | (go_at_call 61; (with_reducible refine (CX.out).mono ?_); rintro e w1 ⟨vx, rfl, hg1, sx1⟩; have oy1 := ownsRow_below oy hg1) | (go_at_call 61; (with_reducible refine (gSorted _ (Y0 ++ coordsY b) _ (by rw [List.length_append]; omega) (gb_argI oy1)).mono ?_); rintro e w2 ⟨vy, rfl, hg2, sy2⟩; have sx2 := ownsRow_below sx1 hg2; have hB2 : Below w.heap.size w w2 := Below.trans (Below.trans hB0 (hg1.mono hB0.size)) (hg2.mono (Nat.le_trans hB0.size hg1.size))))
          have hsx := sorted_asc (X0 ++ coordsX b)
          have hsy := sorted_asc (Y0 ++ coordsY b)
          have xb := xs_bd (A := a) (B := b) NA.out NB.out
          have yb := ys_bd (A := a) (B := b) NA.out NB.out
          obtain ⟨c1, c2, _⟩ := inside_cells a b how
          rw [HXa.out] at xb c1
          rw [HYa.out] at yb c2
          have hlX : (sortedF (X0 ++ coordsX b)).length ≤ 1024 := Nat.le_trans (sortedF_len _) (by rw [List.length_append]; omega)
          have hlY : (sortedF (Y0 ++ coordsY b)).length ≤ 1024 := Nat.le_trans (sortedF_len _) (by rw [List.length_append]; omega)
          have hfin : Hid (buildF a b how = flat (bandsF (insideF how a b) (sortedF (X0 ++ coordsX b)) (sortedF (Y0 ++ coordsY b)) ((sortedF (Y0 ++ coordsY b)).length - 1))) := Lib.hid (by unfold buildF cellsF; rw [HXa.out, HYa.out])
          have ga2 : argR w2 w2.heap.size (.slice ao n cap) a := by
            have := GA.out
            rw [HN.out] at this
            exact (this.below hB2).mono hB2.size
          have gb2 : argR w2 w2.heap.size (.slice bo m cap2) b := by
            have := GB.out
            rw [HM.out] at this
            exact (this.below hB2).mono hB2.size
          have CI := Lib.hid (fun x y (W : World) (hx : -4194304 ≤ x ∧ x ≤ 4194304) (hy : -4194304 ≤ y ∧ y ≤ 4194304) (hW : Below w2.heap.size w2 W) => gInside (.slice ao n cap) (.slice bo m cap2) a b how x y w2.heap.size w2.heap.size W hx hy HA.out HB.out (by rw [HN.out]; omega) (by rw [HM.out]; omega) (fun q => (ga2.below hW).below ⟨rfl, rfl, rfl, Nat.le_refl _, fun _ _ => rfl⟩) (fun q => (gb2.below hW).below ⟨rfl, rfl, rfl, Nat.le_refl _, fun _ _ => rfl⟩) HHOW.out)
          have hw2 : w.heap.size ≤ w2.heap.size := hB2.size
          clear ox oy hap hB0 oy1 hg1 hg2 sx1 lX0 lY0 lXY lYY ga2 gb2 CX HT
          generalize insideF how a b = T at *
          generalize sortedF (X0 ++ coordsX b) = XS at *
          generalize sortedF (Y0 ++ coordsY b) = YS at *
          obtain ⟨ax, cx, rfl, hax⟩ := gb_rowI sx2
          obtain ⟨ay, cy, rfl, hay⟩ := gb_rowI sy2
          have BDX := Lib.hid (fun y => runs_bd (T := fun x => T x y) (lo := -1048576) (hi := 1048576) (xs := XS) xb)
          have BDY := Lib.hid (bands_bd (T := T) (lo := -1048576) (hi := 1048576) (xs := XS) yb)
          have OKB := Lib.hid (bandsF_ok hsx hsy c1 c2)
          have LB := Lib.hid (bandsF_len T XS YS)
          have RO := Lib.hid (fun y => (rowF_ok hsx c1 y).1)
          have RL := Lib.hid (fun y k => runsF_len (fun x => T x y) XS k)
          have XB := Lib.hid xb
          have YB := Lib.hid yb
          have SX := Lib.hid (fun i => asc_step hsx (i := i))
          have SY := Lib.hid (fun i => asc_step hsy (i := i))
          obtain ⟨nx, hnx⟩ : ∃ nx, XS.length = nx := ⟨_, rfl⟩
          obtain ⟨my, hmy⟩ : ∃ my, YS.length = my := ⟨_, rfl⟩
          rw [hnx] at hax hlX XB SX BDX
          rw [hmy] at hay hlY YB SY BDY OKB hfin
          have NX := Lib.hid hnx
          have MY := Lib.hid hmy
          have HX := Lib.hid hax
          have HY := Lib.hid hay
          rw [hnx, hmy]
          clear hsx hsy xb yb c1 c2 hax hay sx2 sy2 hnx hmy HA HB H H' GA GB NA NB
          go_wp2
          go_loopw [11, 12, 13] (fun ov dv i W => ∃ j : Nat, j ≤ my - 1 ∧ i = .int .i64 (j : Int) ∧ St3 w2 W w2.heap.size ov (flat (bandsF T XS YS j).dropLast) dv (beforeOf (bandsF T XS YS j))) (fun _ _ i _ => (my - (intOf i).toNat))
          case atStart => exact ⟨0, by omega, rfl, World.ownsRow_nil _ _ _ _, World.ownsRow_nil _ _ _ _, Or.inl rfl, Below.refl _ _, Nat.le_refl _⟩
          case round =>
            obtain ⟨j, hj, rfl, hst⟩ := hrel
            by_cases hjm : j + 1 < my
            · obtain ⟨gy, rfl, hgy, hcy⟩ := HY.out (by omega)
              have y0c := hcy j (by omega)
              have y1c := hcy (j + 1) hjm
              have hyy := SY.out j hjm
              have yb0 := YB.out j (by omega)
              have yb1 := YB.out (j + 1) hjm
              have hstep : Hid (bandsF T XS YS (j + 1) = bandStep (bandsF T XS YS j) (rowF T XS (YS.getD j 0)) (YS.getD j 0) (YS.getD (j + 1) 0)) := Lib.hid rfl
              have hbl : (flat (bandsF T XS YS j)).length ≤ 1048576 := Nat.le_trans (LB.out j) (by rw [NX.out]; exact Nat.mul_le_mul (show j ≤ 1024 by omega) hlX)
              have hbo := OKB.out j (by omega)
              have hbd := BDY.out j (by omega)
              have hro := RO.out (YS.getD j 0)
              have hlo := hyy
              generalize YS.getD j 0 = y at y0c hyy yb0 hstep hbo hro hlo
              generalize YS.getD (j + 1) 0 = y' at y1c hyy yb1 hstep hlo
              generalize bandsF T XS YS j = bs at hstep hbl hbo hbd hst
              have HBO := Lib.hid hbo
              have HBD := Lib.hid hbd
              have HRO := Lib.hid hro
              have hOD := gb_flat bs
              obtain ⟨O, hO⟩ : ∃ O, flat bs.dropLast = O := ⟨_, rfl⟩
              obtain ⟨D, hD⟩ : ∃ D, beforeOf bs = D := ⟨_, rfl⟩
              rw [hO, hD] at hst hOD
              have hODl : O.length + D.length ≤ 1048576 := by rw [← List.length_append, hOD]; exact hbl
              have HOD := Lib.hid hOD
              have HO := Lib.hid hO
              have HD := Lib.hid hD
              have HCY := Lib.hid hcy
              have Y0C := Lib.hid y0c
              have Y1C := Lib.hid y1c
              have kj : IntKind.i64.wrap ((j : Int) + 1) = (j : Int) + 1 := IntWalk.i64_in _ (by omega)
              clear hbo hbd hro hOD hO hD hcy hbl hlo y0c y1c
              have jt : ((j : Int) + 1).toNat = j + 1 := by omega
              have jp : (0 : Int) ≤ (j : Int) + 1 := by omega
              have jl : (j : Int) + 1 < (my : Int) := by omega
              have jl0 : (j : Int) < (my : Int) := by omega
              obtain ⟨wo, rfl⟩ : ∃ wo : World, wo = wr := ⟨_, rfl⟩
              go_wp2
              go_loopw [14, 15] (fun rv i W => ∃ k : Nat, k ≤ nx - 1 ∧ i = .int .i64 (k : Int) ∧ St4 w2 W w2.heap.size u11 O u12 D rv (Band.flat ⟨y, y' - y, runsF (fun x => T x y) XS k⟩)) (fun _ i _ => (nx - (intOf i).toNat))
              case atStart => exact ⟨0, by omega, rfl, St4.start hst⟩
              case round =>
                obtain ⟨k, hk, rfl, hs4⟩ := hrel
                by_cases hkx : k + 1 < nx
                · obtain ⟨gx, rfl, hgx, hcx⟩ := HX.out (by omega)
                  have hb2 : Below w2.heap.size w2 wr := hs4.1.2.2.2.1
                  have hbz : w2.heap.size ≤ wr.heap.size := hs4.1.2.2.2.2
                  have X0C := Lib.hid (hcx k (by omega))
                  have X1C := Lib.hid (hcx (k + 1) hkx)
                  have x0c := (hb2.cell (p := ⟨gx, k, none⟩) hgx).trans (hcx k (by omega))
                  have x1c := (hb2.cell (p := ⟨gx, k + 1, none⟩) hgx).trans (hcx (k + 1) hkx)
                  have y0c := (hb2.cell (p := ⟨gy, j, none⟩) hgy).trans Y0C.out
                  have y1c := (hb2.cell (p := ⟨gy, j + 1, none⟩) hgy).trans Y1C.out
                  have hxx := SX.out k hkx
                  have xb0 := XB.out k (by omega)
                  have xb1 := XB.out (k + 1) hkx
                  have hrs : Hid (runsF (fun x => T x y) XS (k + 1) = runStep (fun x => T x y) (runsF (fun x => T x y) XS k) (XS.getD k 0) (XS.getD (k + 1) 0)) := Lib.hid rfl
                  have hrb := BDX.out y k (by omega)
                  have hrl := RL.out y k
                  have ci := fun W => CI.out (XS.getD k 0) y W (by omega) (by omega)
                  generalize XS.getD k 0 = x at X0C x0c hxx xb0 hrs ci
                  generalize XS.getD (k + 1) 0 = x' at X1C x1c hxx xb1 hrs
                  generalize runsF (fun x => T x y) XS k = R at hrs hrb hrl hs4
                  have kk : IntKind.i64.wrap ((k : Int) + 1) = (k : Int) + 1 := IntWalk.i64_in _ (by omega)
                  clear hcx
                  rcases hT : T x y with _ | _
                  · as_aux_lemma =>
                      have ci' : ∀ W, Below w2.heap.size w2 W → Calls Try.prog 62 #[.slice ao n cap, .slice bo m cap2, .int .i64 how, .int .i64 x, .int .i64 y] W fun e w' => e = .returned (.bool false) ∧ ∃ q, w' = W.drewN q := by
                        intro W hW
                        have := ci W hW
                        rw [hT] at this
                        exact this
                      have CIF := Lib.hid ci'
                      have HT := Lib.hid hT
                      clear ci ci' hT x1c y1c hxx
                      go_wp2
                      go_quiet ((go_at_call 62; exact Calls.quiet_of (CIF.out _ (hb2.trans ⟨rfl, rfl, rfl, Nat.le_refl _, fun _ _ => rfl⟩))))
                      go_wp2
                      go_roundw
                      case rel => exact ⟨k + 1, by omega, by simp, by rw [hrs.out, runStep_no (T := fun x => T x y) HT.out]; exact hs4.up (grown_drewN _ _ none)⟩
                      case measure => simp [intOf]; omega
                  · have ci' : ∀ W, Below w2.heap.size w2 W → Calls Try.prog 62 #[.slice ao n cap, .slice bo m cap2, .int .i64 how, .int .i64 x, .int .i64 y] W fun e w' => e = .returned (.bool true) ∧ ∃ q, w' = W.drewN q := by
                      intro W hW
                      have := ci W hW
                      rw [hT] at this
                      exact this
                    have CIT := Lib.hid ci'
                    have HT := Lib.hid hT
                    have k2 : IntKind.i64.wrap (x' - x) = x' - x := IntWalk.i64_in _ (by omega)
                    have k3 : IntKind.i64.wrap (y' - y) = y' - y := IntWalk.i64_in _ (by omega)
                    have kt : ((k : Int) + 1).toNat = k + 1 := by omega
                    have kp : (0 : Int) ≤ (k : Int) + 1 := by omega
                    have kl : (k : Int) + 1 < (nx : Int) := by omega
                    have kl0 : (k : Int) < (nx : Int) := by omega
                    have HXX := Lib.hid hxx
                    obtain ⟨i1, hi1, hz1', hzs1, hzb1⟩ := info_parts info23
                    have hs5 := hs4.2.1
                    rw [gb_bl] at hs5
                    obtain ⟨ar, cr, rfl, har, _, _⟩ := row_form hs5
                    have HUP : Hid (∀ W, wr.grownBy W none → W.ownsRow w2.heap.size 33 4 (.slice ar R.length cr) R.length (cellsR (Band.flat ⟨y, y' - y, R⟩))) := Lib.hid (fun W hW => by
                      have := (hs4.up hW).2.1
                      rw [gb_bl] at this
                      exact this)
                    have HS4 := Lib.hid hs4
                    have MK : Hid (∀ W, Below w2.heap.size w2 W → Below w2.heap.size w2 W ∧ W.cell? ⟨gx, k, none⟩ = some (.int .i64 x) ∧ W.cell? ⟨gx, k + 1, none⟩ = some (.int .i64 x') ∧ W.cell? ⟨gy, j, none⟩ = some (.int .i64 y) ∧ W.cell? ⟨gy, j + 1, none⟩ = some (.int .i64 y')) := Lib.hid (fun W hW => ⟨hW, (hW.cell (p := ⟨gx, k, none⟩) hgx).trans X0C.out, (hW.cell (p := ⟨gx, k + 1, none⟩) hgx).trans X1C.out, (hW.cell (p := ⟨gy, j, none⟩) hgy).trans Y0C.out, (hW.cell (p := ⟨gy, j + 1, none⟩) hgy).trans Y1C.out⟩)
                    clear ci ci' hT hxx hs5 hs4
                    rcases List.eq_nil_or_concat R with rfl | ⟨Q, r, rfl⟩
                    · as_aux_lemma =>
                        have HR := Lib.hid (show runStep (fun x => T x y) [] x x' = [] ++ [(x, x' - x)] from runStep_new (T := fun x => T x y) HT.out (fun Q r e => by simp at e))
                        rw [show ([] : List (Int × Int)).length = 0 from rfl] at HUP HS4 ⊢
                        go_wp2
                        go_quiet ((go_at_call 62; exact Calls.quiet_of (CIT.out _ (hb2.trans ⟨rfl, rfl, rfl, Nat.le_refl _, fun _ _ => rfl⟩))))
                        go_wp2
                        go_quiet (fail)
                        go_wp2
                        go_region_held3 (fun W => Below w2.heap.size w2 W ∧ W.cell? ⟨gx, k, none⟩ = some (.int .i64 x) ∧ W.cell? ⟨gx, k + 1, none⟩ = some (.int .i64 x') ∧ W.cell? ⟨gy, j, none⟩ = some (.int .i64 y) ∧ W.cell? ⟨gy, j + 1, none⟩ = some (.int .i64 y'))
                          (first | exact MK.out _ (hb2.trans ⟨rfl, rfl, rfl, Nat.le_refl _, fun _ _ => rfl⟩) | assumption | exact MK.out _ hb5 | exact MK.out _ (hb2.grown (grown_both (grown_drewN _ _ none) (World.grownBy_alloc _ _ none)) hbz (fun k e => by cases e)))
                          (first | (refine step_append_two _ rfl _ _ 22 rfl w2.heap.size 33 i1 (.agg #[.int .i64 0, .int .i64 0, .int .i64 0, .int .i64 0]) 4 32 Try.underlying22 hi1 hz1' hzs1 hzb1 rfl (by decide) _ _ _ rfl (HUP.out _ (grown_both (grown_drewN _ _ none) (World.grownBy_alloc _ _ none))) ⟨_, 0, none⟩ 1 1 [.int .i64 x, .int .i64 y, .int .i64 (x' - x), .int .i64 (y' - y)] rfl rfl (gb_newc _ _ _ _ _ _) (by intro u hu; simp at hu; rcases hu with rfl | rfl | rfl | rfl <;> rfl) (by unfold maxLen; omega) (by omega) (by simp; omega) ?_; intro v5 w5 own5 hg5 hm5; have hS5 := St4.append ⟨x, y, x' - x, y' - y⟩ (HS4.out.up (grown_both (grown_drewN _ _ none) (World.grownBy_alloc _ _ none))) (by rw [gb_bl]; exact own5) hg5 hm5; have hb5 := hS5.1.2.2.2.1))
                        go_wp2
                        go_roundw
                        case rel => exact ⟨k + 1, by omega, by simp, by rw [hrs.out, HR.out, gb_snoc]; exact hS5⟩
                        case measure => simp [intOf]; omega
                    · rw [List.concat_eq_append] at *
                      obtain ⟨r1, r2⟩ := r
                      obtain ⟨nR, hnR⟩ : ∃ nR, (Q ++ [(r1, r2)]).length = nR := ⟨_, rfl⟩
                      have hQ : Q.length = nR - 1 := by rw [← hnR]; simp
                      have t4' : 0 < nR := by rw [← hnR]; simp
                      have hbr := hrb (r1, r2) (List.mem_append_right _ (List.mem_singleton.2 rfl))
                      have hown := HUP.out wr ⟨rfl, rfl, rfl, Nat.le_refl _, fun _ _ _ => rfl⟩
                      obtain ⟨rl0, rl2⟩ := row_last y (y' - y) Q (r1, r2)
                      rw [hQ] at rl0 rl2
                      rw [hnR] at hown HUP har hrl ⊢
                      obtain ⟨gr, rfl⟩ := har t4'
                      have r0c := (hown.cellAt ((nR - 1) * 4) (by omega)).trans rl0
                      have r2c := (hown.cellAt ((nR - 1) * 4 + 2) (by omega)).trans rl2
                      have rfz := hown.frozenAt ((nR - 1) * 4 + 2)
                      simp only at hbr r0c r2c
                      have t0 : IntKind.i64.wrap ((nR : Int) - 1) = (nR : Int) - 1 := IntWalk.i64_in _ (by omega)
                      have t1 : ((nR : Int) - 1).toNat = nR - 1 := by omega
                      have t2 : (0 : Int) ≤ (nR : Int) - 1 := by omega
                      have t3 : (nR : Int) - 1 < (nR : Int) := by omega
                      have t4 : (0 : Int) < (nR : Int) := by omega
                      have t5 : (1 : Int) ≤ (nR : Int) := by omega
                      have t6 : IntKind.i64.wrap (r1 + r2) = r1 + r2 := IntWalk.i64_in _ (by omega)
                      have t7 : nR - 1 < nR := by omega
                      have t8 : IntKind.i64.wrap (x' - r1) = x' - r1 := IntWalk.i64_in _ (by omega)
                      have HNR := Lib.hid hnR
                      have HQ := Lib.hid hQ
                      clear hrb hown rl0 rl2 hnR hQ har
                      by_cases hx : r1 + r2 = x
                      · as_aux_lemma =>
                          have HR := Lib.hid (show runStep (fun x => T x y) (Q ++ [(r1, r2)]) x x' = Q ++ [(r1, x' - r1)] from runStep_grow (T := fun x => T x y) HT.out hx)
                          have he : (r1 + r2 == x) = true := by simp [hx]
                          clear hx
                          go_wp2
                          go_quiet ((go_at_call 62; exact Calls.quiet_of (CIT.out _ (hb2.trans ⟨rfl, rfl, rfl, Nat.le_refl _, fun _ _ => rfl⟩))))
                          go_wp2
                          go_quiet (fail)
                          go_wp2
                          go_region
                          go_wp2
                          go_roundw
                          case rel => exact ⟨k + 1, by omega, by simp, by rw [hrs.out, HR.out]; have h4 := HS4.out; rw [HNR.out] at h4; exact St4.store (h4.up (grown_drewN _ _ none)) (by rw [gb_bl y (y' - y), HNR.out]) (by rw [gb_bl y (y' - y), gb_bl y (y' - y)]; simp) (by rw [← HQ.out]; exact row_put y (y' - y) Q (r1, r2) (x' - r1))⟩
                          case measure => simp [intOf]; omega
                      · as_aux_lemma =>
                          have HR := Lib.hid (show runStep (fun x => T x y) (Q ++ [(r1, r2)]) x x' = Q ++ [(r1, r2)] ++ [(x, x' - x)] from runStep_new (T := fun x => T x y) HT.out (fun Q' r e => by
                            have := List.append_inj' e rfl
                            have e2 : (r1, r2) = r := by simpa using this.2
                            subst e2
                            exact hx))
                          have he : (r1 + r2 == x) = false := by simp [hx]
                          clear hx
                          go_wp2
                          go_quiet ((go_at_call 62; exact Calls.quiet_of (CIT.out _ (hb2.trans ⟨rfl, rfl, rfl, Nat.le_refl _, fun _ _ => rfl⟩))))
                          go_wp2
                          go_quiet (fail)
                          go_wp2
                          go_region_held3 (fun W => Below w2.heap.size w2 W ∧ W.cell? ⟨gx, k, none⟩ = some (.int .i64 x) ∧ W.cell? ⟨gx, k + 1, none⟩ = some (.int .i64 x') ∧ W.cell? ⟨gy, j, none⟩ = some (.int .i64 y) ∧ W.cell? ⟨gy, j + 1, none⟩ = some (.int .i64 y'))
                            (first | exact MK.out _ (hb2.trans ⟨rfl, rfl, rfl, Nat.le_refl _, fun _ _ => rfl⟩) | assumption | exact MK.out _ hb5 | exact MK.out _ (hb2.grown (grown_both (grown_drewN _ _ none) (World.grownBy_alloc _ _ none)) hbz (fun k e => by cases e)))
                            (first | (refine step_append_two _ rfl _ _ 22 rfl w2.heap.size 33 i1 (.agg #[.int .i64 0, .int .i64 0, .int .i64 0, .int .i64 0]) 4 32 Try.underlying22 hi1 hz1' hzs1 hzb1 rfl (by decide) _ _ _ rfl (HUP.out _ (grown_both (grown_drewN _ _ none) (World.grownBy_alloc _ _ none))) ⟨_, 0, none⟩ 1 1 [.int .i64 x, .int .i64 y, .int .i64 (x' - x), .int .i64 (y' - y)] rfl rfl (gb_newc _ _ _ _ _ _) (by intro u hu; simp at hu; rcases hu with rfl | rfl | rfl | rfl <;> rfl) (by unfold maxLen; omega) (by omega) (by simp; omega) ?_; intro v5 w5 own5 hg5 hm5; have hS5 := St4.append ⟨x, y, x' - x, y' - y⟩ (HS4.out.up (grown_both (grown_drewN _ _ none) (World.grownBy_alloc _ _ none))) (by rw [gb_bl, HNR.out]; exact own5) hg5 hm5; have hb5 := hS5.1.2.2.2.1))
                          go_wp2
                          go_roundw
                          case rel => exact ⟨k + 1, by omega, by simp, by rw [hrs.out, HR.out, gb_snoc]; exact hS5⟩
                          case measure => simp [intOf]; omega
                --X
                · obtain rfl : k = nx - 1 := by omega
                  have hrow : runsF (fun x => T x y) XS (nx - 1) = rowF T XS y := by unfold rowF; rw [NX.out]
                  rw [hrow] at hs4
                  have hrl := RL.out y (nx - 1)
                  rw [hrow] at hrl
                  have hro := HRO.out
                  clear hrow
                  generalize rowF T XS y = R at hs4 hrl hro hstep
                  have hb2 : Below w2.heap.size w2 wr := hs4.1.2.2.2.1
                  have hbz : w2.heap.size ≤ wr.heap.size := hs4.1.2.2.2.2
                  have y0c := (hb2.cell (p := ⟨gy, j, none⟩) hgy).trans Y0C.out
                  have y1c := (hb2.cell (p := ⟨gy, j + 1, none⟩) hgy).trans Y1C.out
                  have hs5 := hs4.2.1
                  rw [gb_bl] at hs5
                  obtain ⟨ar, cr, rfl, har, _, _⟩ := row_form hs5
                  obtain ⟨ad, cd, rfl, had, _, _⟩ := row_form hs4.1.2.1
                  have HS4 := Lib.hid hs4
                  clear hs4
                  have hkx' : ¬ ((nx - 1 : Nat) : Int) + 1 < (nx : Int) := by omega
                  rcases Nat.eq_zero_or_pos R.length with hR0 | hR0
                  · obtain rfl := List.eq_nil_of_length_eq_zero hR0
                    rw [show ([] : List (Int × Int)).length = 0 from rfl] at HS4 hs5 ⊢
                    go_wp2
                    go_roundw
                    case rel => exact ⟨j + 1, by omega, by simp, by rw [hstep.out, show bandStep bs [] y y' = bs from rfl, HO.out, HD.out]; exact HS4.out.1⟩
                    case measure => simp [intOf]; omega
                  · obtain ⟨i1, hi1, hz1', hzs1, hzb1⟩ := info_parts info23
                    have hRne : R ≠ [] := fun e => by rw [e] at hR0; exact absurd hR0 (by simp)
                    have HCA : Hid (∀ W, wr.grownBy W none → Calls Try.prog 63 #[.slice ad D.length cd, .slice ar R.length cr] W fun e w' => e = .returned (.bool (decide (colsF D = R))) ∧ ∃ q, w' = W.drewN q) := Lib.hid (fun W hW => by
                      have h4 := HS4.out.up hW
                      have h5 := h4.2.1
                      have := gAlike (.slice ad D.length cd) (.slice ar R.length cr) D (Band.flat ⟨y, y' - y, R⟩) W.heap.size W.heap.size W (by omega) (by rw [gb_bl]; omega) (argR_own h4.1.2.1) (argR_own h5)
                      rw [cols_flat] at this
                      exact this)
                    have hod := HS4.out.1.2.1
                    have hbok := HBO.out.1.2
                    have hbbd := HBD.out
                    clear hs5
                    obtain ⟨nR, hnR⟩ : ∃ nR, R.length = nR := ⟨_, rfl⟩
                    rw [hnR] at hR0 hrl HCA HS4 ⊢
                    have HNR := Lib.hid hnR
                    have dR : ((nR : Int) == 0) = false := by simp; omega
                    clear hnR har
                    rcases gb_ways (bs := bs) (y := y) (y' := y') hRne with ⟨hbs, hbst⟩ | ⟨pre, b, hbs, hne, hbst⟩ | ⟨pre, b, hbs, hby, hrne, hbst⟩ | ⟨pre, b, hbs, hby, hreq, hbst⟩
                    · as_aux_lemma =>
                        have HST := Lib.hid hbst
                        have hD0 : D = [] := by rw [← HD.out, hbs]; rfl
                        subst hD0
                        rw [show ([] : List Rc).length = 0 from rfl] at HS4 ⊢
                        have hODl2 : O.length + ([] : List Rc).length ≤ 1048576 := hODl
                        clear hbs hbst hod hbok hbbd HCA hRne had
                        go_wp2
                        go_quiet (fail)
                        go_wp2_with (at_builtin; refine wpList_append_rows _ rfl _ _ 22 rfl w2.heap.size w2.heap.size 33 i1 (.agg #[.int .i64 0, .int .i64 0, .int .i64 0, .int .i64 0]) 4 32 Try.underlying22 hi1 hz1' hzs1 hzb1 rfl (by decide) _ _ _ rfl (HS4.out.up ⟨rfl, rfl, rfl, Nat.le_refl _, fun _ _ _ => rfl⟩).1.1 _ _ _ rfl (HS4.out.up ⟨rfl, rfl, rfl, Nat.le_refl _, fun _ _ _ => rfl⟩).1.2.1 (cellsR_one _) (by unfold maxLen; omega) (by omega) hbz ?_)
                        intro v5 w5 own5 hg5 hm5
                        have hS5 := St4.shift (HS4.out.up (grown_drewN _ _ none)) own5 hg5 hm5
                        clear own5 hg5 hm5
                        go_wp2
                        go_roundw
                        case rel => exact ⟨j + 1, by omega, by simp, by rw [hstep.out, HST.out, List.dropLast_concat, gb_before, ← HOD.out]; exact hS5⟩
                        case measure => simp [intOf]; omega
                    all_goals
                      have hDb : D = b.flat := by rw [← HD.out, hbs, gb_before]
                      have hbmem : b ∈ bs := by rw [hbs]; exact List.mem_append_right _ (List.mem_singleton.2 rfl)
                      have hbk := hbok b hbmem
                      have hbb := hbbd b hbmem
                      obtain ⟨hbl, hb1, hb3⟩ := gb_flat0 hbk.2.1
                      rw [← hDb] at hbl hb1 hb3
                      obtain ⟨gd, rfl⟩ := had hbl
                      have d1c := (hod.cellAt 1 (by omega)).trans hb1
                      have d3c := (hod.cellAt 3 (by omega)).trans hb3
                      have s1 : IntKind.i64.wrap (b.y + b.h) = b.y + b.h := IntWalk.i64_in _ (by omega)
                      have hcols : colsF D = b.runs := by rw [hDb, cols_flat]
                      have HST := Lib.hid hbst
                      have HBS := Lib.hid hbs
                      have HDB := Lib.hid hDb
                      have hgdb := (hod.lt gd rfl).1
                      obtain ⟨nD, hnD⟩ : ∃ nD, D.length = nD := ⟨_, rfl⟩
                      have HND := Lib.hid hnD
                      rw [hnD] at hbl HCA HS4 ⊢
                      have hODl2 : nD ≤ 1048576 := by omega
                      have hdl : (0 : Int) < (nD : Int) := by omega
                      have hdl2 : 0 < nD := hbl
                      clear hbst hbs hDb hnD hb1 hb3 hbmem hbk hbok hbbd had hod hRne
                    · as_aux_lemma =>
                        have he : (b.y + b.h == y) = false := by simp [hne]
                        clear HCA hcols hne
                        go_wp2
                        go_quiet (fail)
                        go_wp2_with (at_builtin; refine wpList_append_rows _ rfl _ _ 22 rfl w2.heap.size w2.heap.size 33 i1 (.agg #[.int .i64 0, .int .i64 0, .int .i64 0, .int .i64 0]) 4 32 Try.underlying22 hi1 hz1' hzs1 hzb1 rfl (by decide) _ _ _ rfl (HS4.out.up ⟨rfl, rfl, rfl, Nat.le_refl _, fun _ _ _ => rfl⟩).1.1 _ _ _ rfl (HS4.out.up ⟨rfl, rfl, rfl, Nat.le_refl _, fun _ _ _ => rfl⟩).1.2.1 (cellsR_one _) (by unfold maxLen; omega) (by omega) hbz ?_)
                        intro v5 w5 own5 hg5 hm5
                        have hS5 := St4.shift (HS4.out.up (grown_drewN _ _ none)) own5 hg5 hm5
                        clear own5 hg5 hm5
                        go_wp2
                        go_roundw
                        case rel => exact ⟨j + 1, by omega, by simp, by rw [hstep.out, HST.out, List.dropLast_concat, gb_before, ← HOD.out]; exact hS5⟩
                        case measure => simp [intOf]; omega
                    · as_aux_lemma =>
                        have he : (b.y + b.h == y) = true := by simp [hby]
                        have hcd : decide (colsF D = R) = false := by rw [hcols]; exact decide_eq_false hrne
                        rw [hcd] at HCA
                        clear hcols hcd hby hrne
                        go_wp2
                        go_quiet ((go_at_call 63; exact Calls.quiet_of (HCA.out _ ⟨rfl, rfl, rfl, Nat.le_refl _, fun _ _ _ => rfl⟩)))
                        go_wp2_with (at_builtin; refine wpList_append_rows _ rfl _ _ 22 rfl w2.heap.size w2.heap.size 33 i1 (.agg #[.int .i64 0, .int .i64 0, .int .i64 0, .int .i64 0]) 4 32 Try.underlying22 hi1 hz1' hzs1 hzb1 rfl (by decide) _ _ _ rfl (HS4.out.up ⟨rfl, rfl, rfl, Nat.le_refl _, fun _ _ _ => rfl⟩).1.1 _ _ _ rfl (HS4.out.up ⟨rfl, rfl, rfl, Nat.le_refl _, fun _ _ _ => rfl⟩).1.2.1 (cellsR_one _) (by unfold maxLen; omega) (by omega) hbz ?_)
                        intro v5 w5 own5 hg5 hm5
                        have hS5 := St4.shift (HS4.out.up (grown_drewN _ _ none)) own5 hg5 hm5
                        clear own5 hg5 hm5
                        go_wp2
                        go_roundw
                        case rel => exact ⟨j + 1, by omega, by simp, by rw [hstep.out, HST.out, List.dropLast_concat, gb_before, ← HOD.out]; exact hS5⟩
                        case measure => simp [intOf]; omega
                    · as_aux_lemma =>
                        have he : (b.y + b.h == y) = true := by simp [hby]
                        have hcd : decide (colsF D = R) = true := by rw [hcols]; exact decide_eq_true hreq
                        rw [hcd] at HCA
                        have HBY := Lib.hid hby
                        have hpre : Hid (flat pre = O) := Lib.hid (by rw [← HO.out, HBS.out, List.dropLast_concat])
                        have t8 : IntKind.i64.wrap (y' - b.y) = y' - b.y := IntWalk.i64_in _ (by omega)
                        clear hcols hcd hby hreq
                        go_wp2
                        go_quiet ((go_at_call 63; exact Calls.quiet_of (HCA.out _ ⟨rfl, rfl, rfl, Nat.le_refl _, fun _ _ _ => rfl⟩)))
                        go_wp2
                        obtain ⟨wi, rfl⟩ : ∃ wi : World, wi = wr := ⟨_, rfl⟩
                        go_loopw [239] (fun i W => ∃ k : Nat, k ≤ nD ∧ i = .int .i64 (k : Int) ∧ St3 w2 W w2.heap.size u11 O (.slice (some ⟨gd, 0, none⟩) nD cd) (updR [] b.flat (y' - y) k)) (fun i _ => (nD - (intOf i).toNat))
                        case atStart => exact ⟨0, by omega, rfl, by rw [updR_zero, List.nil_append, ← HDB.out]; exact (HS4.out.up (grown_drewN _ _ none)).1⟩
                        case round =>
                          obtain ⟨k, hk, rfl, hs3⟩ := hrel
                          by_cases hkd : k < nD
                          · have hyk := gb_updY b.flat (y' - y) k (by rw [← HDB.out, HND.out]; exact hkd)
                            obtain ⟨hyy1, hyh⟩ := gb_flatYH b k (by rw [← HDB.out, HND.out]; exact hkd)
                            obtain ⟨uc1, uc2⟩ := updR_cells [] b.flat (y' - y) k (by rw [← HDB.out, HND.out]; exact hkd)
                            rw [hyy1] at hyk
                            rw [hyh, show b.h + (y' - y) = y' - b.y by have := HBY.out; omega, show ([] : List Rc).length + k = k by simp] at uc1
                            rw [show ([] : List Rc).length + k = k by simp] at uc2
                            have hul : (updR [] b.flat (y' - y) k).length = nD := by rw [updR_len, ← HDB.out, HND.out]; simp
                            have hul2 : (updR [] b.flat (y' - y) (k + 1)).length = nD := by rw [updR_len, ← HDB.out, HND.out]; simp
                            have hod := hs3.2.1
                            rw [hul] at hod
                            have l1 := (hod.cellAt (k * 4 + 1) (by omega)).trans hyk
                            have fz := hod.frozenAt (k * 4 + 3)
                            have l3 := (hod.cellAt (k * 4 + 3) (by omega)).trans uc2
                            have yc1 := (hs3.2.2.2.1.cell (p := ⟨gy, j + 1, none⟩) hgy).trans Y1C.out
                            have UC := Lib.hid uc1
                            have HS3 := Lib.hid hs3
                            have HUL := Lib.hid hul
                            have HUL2 := Lib.hid hul2
                            have kk : IntKind.i64.wrap ((k : Int) + 1) = (k : Int) + 1 := IntWalk.i64_in _ (by omega)
                            clear hyk hyy1 hyh uc1 uc2 hul hul2 hod hs3
                            go_wp2
                            go_region
                            go_wp2
                            go_roundw
                            case rel => exact ⟨k + 1, by omega, by simp, (St3.store HS3.out HUL.out.symm (by rw [HUL.out, HUL2.out]) UC.out).up (grown_drewN _ _ none)⟩
                            case measure => simp [intOf]; omega
                          · obtain rfl : nD = k := by omega
                            have hfe : updR [] b.flat (y' - y) nD = Band.flat ⟨b.y, b.h + (y' - y), b.runs⟩ := by rw [← HND.out, HDB.out, updR_all, List.nil_append]
                            have hbl2 : (Band.flat ⟨b.y, b.h + (y' - y), b.runs⟩).length = nD := by rw [← HND.out, HDB.out]; unfold Band.flat; simp
                            rw [hfe] at hs3
                            have HS3 := Lib.hid hs3
                            clear hs3 hfe
                            go_wp2
                            go_roundw
                            case rel => exact ⟨j + 1, by omega, by simp, by rw [hstep.out, HST.out, List.dropLast_concat, gb_before, hpre.out]; exact HS3.out⟩
                            case measure => simp [intOf]; omega
            --Y
            · obtain rfl : j = my - 1 := by omega
              obtain ⟨i1, hi1, hz1', hzs1, hzb1⟩ := info_parts info23
              have hbl : (flat (bandsF T XS YS (my - 1))).length ≤ 1048576 := Nat.le_trans (LB.out (my - 1)) (by rw [NX.out]; exact Nat.mul_le_mul (show my - 1 ≤ 1024 by omega) hlX)
              have hOD := gb_flat (bandsF T XS YS (my - 1))
              rw [← hfin.out] at hbl hOD
              generalize flat (bandsF T XS YS (my - 1)).dropLast = O at hst hOD
              generalize beforeOf (bandsF T XS YS (my - 1)) = D at hst hOD
              have hODl : O.length + D.length ≤ 1048576 := by rw [← List.length_append, hOD]; exact hbl
              have HOD := Lib.hid hOD
              have HST := Lib.hid hst
              have hbz : w2.heap.size ≤ wr.heap.size := hst.2.2.2.2
              have hjm' : ¬ ((my - 1 : Nat) : Int) + 1 < (my : Int) := by omega
              clear hOD hst hbl
              go_wp2_with (at_builtin; refine wpList_append_rows _ rfl _ _ 22 rfl w2.heap.size w2.heap.size 33 i1 (.agg #[.int .i64 0, .int .i64 0, .int .i64 0, .int .i64 0]) 4 32 Try.underlying22 hi1 hz1' hzs1 hzb1 rfl (by decide) _ _ _ rfl HST.out.1 _ _ _ rfl HST.out.2.1 (cellsR_one _) (by unfold maxLen; omega) (by omega) hbz ?_)
              intro v5 w5 own5 hg5 hm5
              have hb5 : Below w.heap.size w w5 := hB2.trans ((HST.out.2.2.2.1.mono hw2).trans (Below.mono (Below.grown (Below.refl w2.heap.size _) hg5 hbz (fun k e => (HST.out.1.lt k e).1)) hw2))
              rw [← cellsR_append, ← List.length_append, HOD.out] at own5
              have own6 := own5.mono hw2
              clear own5 hg5 hm5
              have HF := Lib.hid (And.intro hb5 own6)
              clear hb5 own6
              go_wp2
              go_ret
              exact ⟨_, rfl, HF.out.1, HF.out.2⟩

end Go.Proofs.Ythknkgblddoapaa
