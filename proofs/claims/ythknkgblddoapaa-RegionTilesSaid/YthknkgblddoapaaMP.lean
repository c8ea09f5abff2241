import Derived.Test.YthknkgblddoapaaProg
import Derived.WalkKit
import Derived.WalkLawsBesides
import Derived.Outline
import Derived.Lib.Walk
import Derived.Deep.QuietTactic
import Derived.BigQuiet
import Derived.RowKit3
import Derived.Deep.LoopGhost
import Derived.Great.Walk
import Derived.Great.BuildSlice
import Derived.Laws.Rows
import Derived.Laws.Tables
import Derived.Laws.CopyOwn
import Derived.Lib.Hide
import Derived.Handy
import Derived.Deep.Onto
import Derived.RegionTactic
import Derived.ChangeAlike
import Derived.Test.YthknkgblddoapaaMK
import Derived.Test.YthknkgblddoapaaML
import Derived.Test.YthknkgblddoapaaMN
import Derived.Test.YthknkgblddoapaaMO
import Derived.Test.YthknkgblddoapaaMH
import Derived.Test.YthknkgblddoapaaMI
import Derived.Test.YthknkgblddoapaaMD
import Derived.Test.YthknkgblddoapaaMA
namespace Go.Proofs.Ythknkgblddoapaa

section
open Go.RowKit
set_option maxHeartbeats 400000
set_option linter.unusedVariables false

/-! The tiles of a small region: plain facts. -/
theorem box_small (L : List Rc) (bs : List Band) (hL : ∀ t ∈ L, t.emp = false) (hbs : BandsOk bs) (hfl : buildF (tilF L) [] 0 = flat bs) (hw : (boxF L).w ≤ 1000) (hh : (boxF L).h ≤ 1000) : (allCells bs).length ≤ 4096 := by
  refine cells_box (allCells_sorted hbs) ((boxF L).x / 16) ((boxF L).y / 16) fun x y hxy => ?_
  have h1 := (allCells_mem bs x y).1 hxy
  rw [← hfl, one_set, tilF_set hL] at h1
  obtain ⟨p, q, hs, e1, e2⟩ := h1
  have h2 := boxF_in p q hs
  unfold inR at h2
  omega
theorem tile_mem (L : List Rc) (bs : List Band) (hL : ∀ t ∈ L, t.emp = false) (hfl : buildF (tilF L) [] 0 = flat bs) (x y : Int) : (x, y) ∈ allCells bs ↔ ∃ p q, setL L p q ∧ p / 16 = x ∧ q / 16 = y := by
  rw [allCells_mem, ← hfl, one_set, tilF_set hL]
theorem tile_is {L : List Rc} (hL : ∀ t ∈ L, t.emp = false) {p q x y : Int} (hs : setL L p q) (e1 : p / 16 = x) (e2 : q / 16 = y) : Rc.tile x y = ⟨x * 16, y * 16, 16, 16⟩ ∧ (Rc.tile x y).emp = false := by
  have hw := set_inW hL hs
  unfold inW at hw
  have e : Rc.tile x y = ⟨x * 16, y * 16, 16, 16⟩ := by unfold Rc.tile; rw [if_neg (by omega)]
  exact ⟨e, by rw [e]; exact ne_of _ (by simp only; omega)⟩
theorem tile_meets {L : List Rc} (hL : ∀ t ∈ L, t.emp = false) {p q x y : Int} (hs : setL L p q) (e1 : p / 16 = x) (e2 : q / 16 = y) : 0 < (buildF L (partF [Rc.tile x y]) 1).length := by
  obtain ⟨t1, t2⟩ := tile_is hL hs e1 e2
  have hp : partF [Rc.tile x y] = [Rc.tile x y] := part_self (fun t ht => by rw [List.mem_singleton] at ht; rw [ht]; exact t2) (by simp)
  rw [hp]
  cases e : buildF L [Rc.tile x y] 1 with
  | cons t l => simp
  | nil =>
    exfalso
    have h1 := (buildF_ok L [Rc.tile x y] 1).2 p q
    have h2 : insideF 1 L [Rc.tile x y] p q = true := by
      show (setB L p q && setB [Rc.tile x y] p q) = true
      rw [(setB_iff _ _ _).2 hs, (setB_iff _ _ _).2 ⟨_, List.mem_singleton.2 rfl, by rw [t1]; unfold inR; simp only; omega⟩]
      rfl
    obtain ⟨t, ht, _⟩ := h1.2 h2
    rw [e] at ht
    cases ht
theorem tile_found {L : List Rc} (hL : ∀ t ∈ L, t.emp = false) {p q : Int} (hs : setL L p q) : (Rc.tile (p / 16) (q / 16)).has p q = true := by
  obtain ⟨t1, t2⟩ := tile_is hL hs rfl rfl
  rw [has_in _ t2, t1]
  unfold inB
  simp
  omega
def foundF (l : List (Int × Int)) (k : Nat) (px py : Int) : Bool := (l.take k).any fun c => (Rc.tile c.1 c.2).has px py
theorem found_succ (l : List (Int × Int)) (k : Nat) (h : k < l.length) (px py : Int) : foundF l (k + 1) px py = (foundF l k px py || (Rc.tile (l.getD k (0, 0)).1 (l.getD k (0, 0)).2).has px py) := by
  unfold foundF
  rw [List.take_succ_eq_append_getElem h, List.any_append, List.getD_eq_getElem?_getD, List.getElem?_eq_getElem h]
  simp
theorem getP_mem {l : List (Int × Int)} {k : Nat} (h : k < l.length) : l.getD k (0, 0) ∈ l := by
  rw [List.getD_eq_getElem?_getD, List.getElem?_eq_getElem h]
  exact List.getElem_mem h
theorem sorted_at {l : List (Int × Int)} (h : l.Pairwise cellLt) {k : Nat} (hk : k < l.length) (h0 : 0 < k) : cellLt (l.getD (k - 1) (0, 0)) (l.getD k (0, 0)) := by
  rw [List.getD_eq_getElem?_getD, List.getD_eq_getElem?_getD, List.getElem?_eq_getElem hk, List.getElem?_eq_getElem (show k - 1 < l.length by omega)]
  exact List.pairwise_iff_getElem.1 h (k - 1) k (by omega) hk (by omega)

theorem found_all {L : List Rc} {T : List (Int × Int)} {n : Nat} (hL : ∀ t ∈ L, t.emp = false) (hm : ∀ x y : Int, (x, y) ∈ T ↔ ∃ p q, setL L p q ∧ p / 16 = x ∧ q / 16 = y) (hn : T.length = n) (px py : Int) (h : foundF T n px py = false) : setB L px py = false := by
  cases e : setB L px py
  · rfl
  · have hs := (setB_iff _ _ _).1 e
    have hi := (hm (px / 16) (py / 16)).2 ⟨px, py, hs, rfl, rfl⟩
    have hf := tile_found hL hs
    unfold foundF at h
    rw [List.take_of_length_le (by omega), List.any_eq_false] at h
    have h2 := h (px / 16, py / 16) hi
    dsimp only at h2
    exact absurd hf h2
theorem argR_lit1 {W : World} {R : Rc} {g : Nat} (hg : g = W.heap.size) : argR (W.alloc (.cells #[.int .i64 R.x, .int .i64 R.y, .int .i64 R.w, .int .i64 R.h] 33)) (W.alloc (.cells #[.int .i64 R.x, .int .i64 R.y, .int .i64 R.w, .int .i64 R.h] 33)).heap.size (.slice (some ⟨g, 0, none⟩) 1 1) [R] := by
  rw [hg]
  exact argR_lit W [R] (by unfold maxLen; simp)
theorem rc_kept {W W' : World} {R : Rc} {O : Obj} (h : Below ((W.alloc (.cells #[.int .i64 R.x, .int .i64 R.y, .int .i64 R.w, .int .i64 R.h] 33)).alloc O).heap.size ((W.alloc (.cells #[.int .i64 R.x, .int .i64 R.y, .int .i64 R.w, .int .i64 R.h] 33)).alloc O) W') : W'.cell? ⟨W.heap.size, 0, none⟩ = some (.int .i64 R.x) ∧ W'.cell? ⟨W.heap.size, 1, none⟩ = some (.int .i64 R.y) ∧ W'.cell? ⟨W.heap.size, 2, none⟩ = some (.int .i64 R.w) ∧ W'.cell? ⟨W.heap.size, 3, none⟩ = some (.int .i64 R.h) ∧ W.heap.size < W'.heap.size := by
  have hs := h.size
  simp at hs
  refine ⟨(h.cell (p := ⟨W.heap.size, 0, none⟩) (by simp; omega)).trans (by simp), (h.cell (p := ⟨W.heap.size, 1, none⟩) (by simp; omega)).trans (by simp), (h.cell (p := ⟨W.heap.size, 2, none⟩) (by simp; omega)).trans (by simp), (h.cell (p := ⟨W.heap.size, 3, none⟩) (by simp; omega)).trans (by simp), by omega⟩
set_option maxHeartbeats 8000000 in
set_option maxRecDepth 100000 in
theorem l10 (u : Value) (A : List Rc) (px py : Int) (w : World) (hu : argR w w.heap.size u A) (cu : capOk u) : Calls Try.prog 10 #[u, .agg #[.int .i64 px, .int .i64 py]] w fun e w' => e = .returned (.bool true) ∧ Below w.heap.size w w' := by
  have hW : Below w.heap.size w w := Below.refl _ _
  have hp : ptAt (w.alloc (.cells #[.int .i64 px, .int .i64 py] 29)) w.heap.size px py := ⟨by simp, by simp, by simp⟩
  have hA : ∀ t ∈ partF A, t.emp = false := fun t ht => part_ne ht
  obtain ⟨bs, hbs, hfl⟩ := (buildF_ok (tilF (partF A)) [] 0).1
  obtain ⟨X, hX⟩ : ∃ X, boxF (partF A) = X := ⟨_, rfl⟩
  have hsm := box_small (partF A) bs hA hbs hfl
  rw [hX] at hsm
  have c1 := fun W h => d27 u A W X hX h cu
  have C1 := Lib.hid c1
  have HSM := Lib.hid hsm
  clear c1 hX hsm
  go_enter Try.func10, Try.ntmps10
  go_wp2_with (go_at_call 27; fail)
  (with_reducible refine (C1.out _ (argR_up hu (by go_grown))).mono ?_)
  rintro e w1 ⟨rfl, hg⟩
  replace hu := argR_up2 hu hg (by go_grown)
  replace hp := pt_up2 hp hg (by go_grown)
  replace hW := bel2 hW hg (by go_grown)
  clear hg
  have HX := Lib.hid hW
  rcases (show 1000 < X.w ∨ (¬ 1000 < X.w ∧ 1000 < X.h) ∨ (¬ 1000 < X.w ∧ ¬ 1000 < X.h) by omega) with k1 | ⟨k1, k2⟩ | ⟨k1, k2⟩
  · go_wp2_with (go_at_call 16; ((with_reducible refine (c16 _).mono ?_)); rintro e wz ⟨rfl, hg⟩)
    go_ret
    exact ⟨rfl, bel2 HX.out hg (by go_grown)⟩

  · have d1 := decide_eq_false (p := 1000 < X.w) k1
    go_wp2_with (go_at_call 16; ((with_reducible refine (c16 _).mono ?_)); rintro e wz ⟨rfl, hg⟩)
    go_ret
    exact ⟨rfl, bel2 HX.out hg (by go_grown)⟩

  · have d1 := decide_eq_false (p := 1000 < X.w) k1
    have d2 := decide_eq_false (p := 1000 < X.h) k2
    have hN := HSM.out (by omega) (by omega)
    have hsum := allCells_len (l := bs) (fun b hb => hbs.2 b hb)
    have hT : tilesR (flat bs) bs = allCells bs := by unfold tilesR; rw [if_neg (by omega)]
    have c2 := fun W h => c29 u A bs W h cu hbs hfl
    rw [hT] at c2
    have C2 := Lib.hid c2
    have HS := Lib.hid (allCells_sorted hbs)
    have HM := Lib.hid (tile_mem (partF A) bs hA hfl)
    have HA := Lib.hid hA
    clear c2 hT hsum hfl HSM hbs hA
    generalize allCells bs = T at *
    go_wp2_with (go_at_call 29; fail)
    (with_reducible refine (C2.out _ (argR_up hu (by go_grown))).mono ?_)
    rintro e w2 ⟨t, rfl, hg, ht⟩
    replace hu := argR_up2 hu hg (by go_grown)
    replace hp := pt_up2 hp hg (by go_grown)
    replace hW := bel2 hW hg (by go_grown)
    clear hg HX C1 C2
    obtain ⟨at0, ct, rfl, hat, hct, _⟩ := row_formS ht
    have hlt2 := ht.lt
    obtain ⟨n, hn⟩ : ∃ n, T.length = n := ⟨_, rfl⟩
    rw [hn] at hat hN ht ⊢
    have HN := Lib.hid hn
    have HT := Lib.hid ht
    have HU := Lib.hid hu
    have HP := Lib.hid hp
    have HW := Lib.hid hW
    have hpz := hp.2.2
    clear hn ht hu hp hW
    go_wp2
    go_loopw [7, 25] (fun f i W => ∃ k : Nat, k ≤ n ∧ i = .int .i64 (k : Int) ∧ f = .bool (foundF T k px py) ∧ Below w2.heap.size w2 W) (fun _ i _ => (n - (intOf i).toNat))
    case atStart => exact ⟨0, Nat.zero_le _, rfl, rfl, Below.refl _ _⟩
    case round =>
      obtain ⟨k, hk, rfl, rfl, hnx⟩ := hrel
      by_cases hlt : k < n
      · obtain ⟨gt, rfl⟩ := hat (by omega)
        have hgt : gt < w2.heap.size := (hlt2 gt rfl).2
        have hT0 := HT.out
        obtain ⟨t0, t1⟩ := cellsP_at T k (by rw [HN.out]; exact hlt)
        have u0 := (hT0.cellAt (k * 2) (by omega)).trans t0
        have u1 := (hT0.cellAt (k * 2 + 1) (by omega)).trans t1
        obtain ⟨cx, cy, hc⟩ : ∃ cx cy, T.getD k (0, 0) = (cx, cy) := ⟨_, _, rfl⟩
        have hmem := (HM.out cx cy).1 (by rw [← hc]; exact getP_mem (by rw [HN.out]; exact hlt))
        obtain ⟨hx, hy, hset, ex, ey⟩ := hmem
        have hmeet := tile_meets HA.out hset ex ey
        have hfs := found_succ T k (by rw [HN.out]; exact hlt) px py
        have hso := fun h0 => sorted_at HS.out (k := k) (by rw [HN.out]; exact hlt) h0
        rw [hc] at u0 u1 hfs hso
        simp only at u0 u1 hfs
        clear t0 t1
        have t0 := (hnx.cell (p := ⟨gt, k * 2, none⟩) hgt).trans u0
        have t1 := (hnx.cell (p := ⟨gt, k * 2 + 1, none⟩) hgt).trans u1
        have HC := Lib.hid hc
        clear hset ex ey hT0 hc
        have kk : IntKind.i64.wrap ((k : Int) + 1) = (k : Int) + 1 := IntWalk.i64_in _ (by omega)
        have co := fun W => p34 cx cy W
        unfold Rc.val at co
        obtain ⟨R, hR⟩ : ∃ R, Rc.tile cx cy = R := ⟨_, rfl⟩
        rw [hR] at co hmeet hfs
        clear hR
        have CO := Lib.hid co
        have HFS := Lib.hid hfs
        have HME := Lib.hid hmeet
        have HSO := Lib.hid hso
        clear co hfs hmeet hso
        go_wp2_with (go_at_call 33; fail)
        (with_reducible refine (CO.out _).mono ?_)
        rintro e w3 ⟨rfl, hg⟩
        have hn3 : Below w2.heap.size w2 w3 := hnx.trans (hg.1.mono hnx.size)
        clear hg
        have hu3 := (HU.out.below hn3).mono hn3.size
        have hp3 := pt_up2 HP.out hn3 (Below.refl _ _)
        have c3 := fun W g h h' => c19 u (Value.slice (some ⟨g, 0, none⟩) 1 1) A [R] W h h' cu (cap_lit g 1 (by unfold maxLen; omega))
        obtain ⟨Z, hZ⟩ : ∃ Z, buildF (partF A) (partF [R]) 1 = Z := ⟨_, rfl⟩
        rw [hZ] at c3
        have hmeet := HME.out
        rw [hZ] at hmeet
        clear hZ
        have C3 := Lib.hid c3
        clear c3
        go_wp2_with (go_at_call 19; fail)
        (with_reducible refine (C3.out _ _ (argR_up hu3 (by go_grown)) (argR_lit1 (by simp))).mono ?_)
        rintro e w4 ⟨x, rfl, hg, hx⟩
        obtain ⟨r0, r1, r2, r3, hrz⟩ := rc_kept hg
        have hn4 : Below w2.heap.size w2 w4 := bel2 hn3 hg (by go_grown)
        replace hp := pt_up2 hp3 hg (by go_grown)
        clear hg hu3 hp3 C3 CO
        obtain ⟨a5, c5, rfl, hx1, hx2, _⟩ := row_formS hx
        obtain ⟨m, hm⟩ : ∃ m, Z.length = m := ⟨_, rfl⟩
        rw [hm] at hx1 hx2 hmeet ⊢
        have dm : decide ((m : Int) = 0) = false := decide_eq_false (by omega)
        clear hx hm
        go_wp2
        replace t0 := (hn4.cell (p := ⟨gt, k * 2, none⟩) hgt).trans u0
        replace t1 := (hn4.cell (p := ⟨gt, k * 2 + 1, none⟩) hgt).trans u1
        have q0 := hp.1
        have q1 := hp.2.1
        rcases Nat.eq_zero_or_pos k with k0 | k0
        · subst k0
          clear HSO
          go_quiet (fail)
          have hn5 : Below w2.heap.size w2 (w4.drewN nq) := below_drewN hn4 nq
          replace hp := pt_up2 HP.out hn5 (Below.refl _ _)
          have cha := fun W => p17 R.x R.y R.w R.h px py W
          have CHA := Lib.hid cha
          clear cha
          go_wp2_with (go_at_call 34; fail)
          (with_reducible refine (CHA.out _).mono ?_)
          rintro e w6 ⟨rfl, hg⟩
          have hn6 : Below w2.heap.size w2 w6 := hn5.trans (hg.1.mono hn5.size)
          clear hg hp
          cases hh : Rc.has R px py
          · have hfs := HFS.out
            rw [hh, Bool.or_false] at hfs
            have HF := Lib.hid hfs
            clear hfs hh HFS
            go_wp2
            go_roundw
            case rel => exact ⟨0 + 1, by omega, rfl, by rw [HF.out], hn6⟩
            case measure => first | (show n - ((0 : Nat) + 1 : Int).toNat < n - ((0 : Nat) : Int).toNat; omega) | (simp [intOf]; omega)
          · have hfs := HFS.out
            rw [hh, Bool.or_true] at hfs
            have HF := Lib.hid hfs
            clear hfs hh HFS
            go_wp2
            go_roundw
            case rel => exact ⟨0 + 1, by omega, rfl, by rw [HF.out], hn6⟩
            case measure => first | (show n - ((0 : Nat) + 1 : Int).toNat < n - ((0 : Nat) : Int).toNat; omega) | (simp [intOf]; omega)
        · have hso := HSO.out k0
          obtain ⟨dx, dy, hd⟩ : ∃ dx dy, T.getD (k - 1) (0, 0) = (dx, dy) := ⟨_, _, rfl⟩
          obtain ⟨v0, v1⟩ := cellsP_at T (k - 1) (by rw [HN.out]; omega)
          have hT0 := HT.out
          replace v0 := (hn4.cell (p := ⟨gt, (k - 1) * 2, none⟩) hgt).trans ((hT0.cellAt ((k - 1) * 2) (by omega)).trans v0)
          replace v1 := (hn4.cell (p := ⟨gt, (k - 1) * 2 + 1, none⟩) hgt).trans ((hT0.cellAt ((k - 1) * 2 + 1) (by omega)).trans v1)
          rw [hd] at v0 v1 hso
          simp only at v0 v1
          have k1 : (0 : Int) < (k : Int) := by omega
          have k2 : IntKind.i64.wrap ((k : Int) - 1) = ((k - 1 : Nat) : Int) := by rw [IntWalk.i64_in _ (by omega)]; omega
          have k3 : k - 1 < n := by omega
          have k4 : ((k - 1 : Nat) : Int) < (n : Int) := by omega
          have hso2 : dy < cy ∨ (dy = cy ∧ dx < cx) := hso
          clear hT0 hd HSO hso
          rcases hso2 with h1 | ⟨h1, h2⟩
          · have e1 := decide_eq_false (p := cy < dy) (by omega)
            have e2 := decide_eq_false (p := cy = dy) (by omega)
            have e3 : (cy == dy) = false := by rw [beq_eq_false_iff_ne]; omega
            have e4 : ¬ cy = dy := by omega
            clear h1
            go_quiet (fail)
            have hn5 : Below w2.heap.size w2 (w4.drewN nq) := below_drewN hn4 nq
            replace hp := pt_up2 HP.out hn5 (Below.refl _ _)
            have cha := fun W => p17 R.x R.y R.w R.h px py W
            have CHA := Lib.hid cha
            clear cha
            go_wp2_with (go_at_call 34; fail)
            (with_reducible refine (CHA.out _).mono ?_)
            rintro e w6 ⟨rfl, hg⟩
            have hn6 : Below w2.heap.size w2 w6 := hn5.trans (hg.1.mono hn5.size)
            clear hg hp
            cases hh : Rc.has R px py
            · have hfs := HFS.out
              rw [hh, Bool.or_false] at hfs
              have HF := Lib.hid hfs
              clear hfs hh HFS
              go_wp2
              go_roundw
              case rel => exact ⟨k + 1, by omega, rfl, by rw [HF.out], hn6⟩
              case measure => first | (show n - ((k : Nat) + 1 : Int).toNat < n - ((k : Nat) : Int).toNat; omega) | (simp [intOf]; omega)
            · have hfs := HFS.out
              rw [hh, Bool.or_true] at hfs
              have HF := Lib.hid hfs
              clear hfs hh HFS
              go_wp2
              go_roundw
              case rel => exact ⟨k + 1, by omega, rfl, by rw [HF.out], hn6⟩
              case measure => first | (show n - ((k : Nat) + 1 : Int).toNat < n - ((k : Nat) : Int).toNat; omega) | (simp [intOf]; omega)
          · subst h1
            have e1 := decide_eq_false (p := dy < dy) (by omega)
            have e2 := decide_eq_false (p := cx ≤ dx) (by omega)
            clear h2
            go_quiet (fail)
            have hn5 : Below w2.heap.size w2 (w4.drewN nq) := below_drewN hn4 nq
            replace hp := pt_up2 HP.out hn5 (Below.refl _ _)
            have cha := fun W => p17 R.x R.y R.w R.h px py W
            have CHA := Lib.hid cha
            clear cha
            go_wp2_with (go_at_call 34; fail)
            (with_reducible refine (CHA.out _).mono ?_)
            rintro e w6 ⟨rfl, hg⟩
            have hn6 : Below w2.heap.size w2 w6 := hn5.trans (hg.1.mono hn5.size)
            clear hg hp
            cases hh : Rc.has R px py
            · have hfs := HFS.out
              rw [hh, Bool.or_false] at hfs
              have HF := Lib.hid hfs
              clear hfs hh HFS
              go_wp2
              go_roundw
              case rel => exact ⟨k + 1, by omega, rfl, by rw [HF.out], hn6⟩
              case measure => first | (show n - ((k : Nat) + 1 : Int).toNat < n - ((k : Nat) : Int).toNat; omega) | (simp [intOf]; omega)
            · have hfs := HFS.out
              rw [hh, Bool.or_true] at hfs
              have HF := Lib.hid hfs
              clear hfs hh HFS
              go_wp2
              go_roundw
              case rel => exact ⟨k + 1, by omega, rfl, by rw [HF.out], hn6⟩
              case measure => first | (show n - ((k : Nat) + 1 : Int).toNat < n - ((k : Nat) : Int).toNat; omega) | (simp [intOf]; omega)
      · obtain rfl : k = n := by omega
        have hall := found_all HA.out HM.out HN.out px py
        obtain ⟨fd, hfd⟩ : ∃ fd, foundF T k px py = fd := ⟨_, rfl⟩
        rw [hfd] at hall ⊢
        have HX := Lib.hid (bel2 HW.out hnx (Below.refl _ _))
        have hu3 := (HU.out.below hnx).mono hnx.size
        have hp3 := pt_up2 HP.out hnx (Below.refl _ _)
        clear hfd
        cases fd
        · have hse := hall rfl
          have cb := fun W1 (hb : Below wr.heap.size wr W1) => d23 u A px py W1 false hse (argR_up hu3 hb) cu
          have CB := Lib.hid cb
          have q0 := hp3.1
          have q1 := hp3.2.1
          clear cb hse hall
          go_wp2_with (go_at_call 23; fail)
          (with_reducible refine (CB.out _ (Below.refl _ _)).mono ?_)
          rintro e wx ⟨rfl, hg⟩
          replace HX := Lib.hid (bel2 HX.out hg (Below.refl _ _))
          clear hg hu3 hp3
          go_wp2_with (go_at_call 16; ((with_reducible refine (c16 _).mono ?_)); rintro e wz ⟨rfl, hg⟩)
          go_ret
          exact ⟨rfl, bel2 HX.out hg (by go_grown)⟩

        · clear hall
          go_wp2_with (go_at_call 16; ((with_reducible refine (c16 _).mono ?_)); rintro e wz ⟨rfl, hg⟩)
          go_ret
          exact ⟨rfl, bel2 HX.out hg (by go_grown)⟩
end

end Go.Proofs.Ythknkgblddoapaa
