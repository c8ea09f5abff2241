import Derived.Test.YtbkhfebopmeanaaProg
import Derived.WalkKit
import Derived.WalkLawsBesides
import Derived.Outline
import Derived.Lib.Walk
import Derived.Deep.QuietTactic
import Derived.BigQuiet
import Derived.RowKit3
import Derived.Deep.LoopGhost
import Derived.Great.Walk
import Derived.Great.BuildSlice
import Derived.Laws.Rows
import Derived.Laws.Tables
import Derived.Laws.CopyOwn
import Derived.Lib.Hide
import Derived.Handy
import Derived.Deep.RegionHeld3
import Derived.Test.YtbkhfebopmeanaaV2
import Derived.Test.YtbkhfebopmeanaaV3
import Derived.Test.YtbkhfebopmeanaaV4
import Derived.Test.YtbkhfebopmeanaaVI
import Derived.Test.YtbkhfebopmeanaaVA
import Derived.Test.YtbkhfebopmeanaaVN
import Derived.Test.YtbkhfebopmeanaaVO
import Derived.Test.YtbkhfebopmeanaaVL
import Derived.Test.YtbkhfebopmeanaaVU
namespace Go.Proofs.Ytbkhfebopmeanaa
open Go.RowKit
set_option maxHeartbeats 400000
set_option linter.unusedVariables false
/-- what the law about tiles keeps: its argument and the list. -/
def Cst (w W : World) (x y a b : Int) (v : Value) (L : List (Int × Int)) : Prop :=
  Below w.heap.size w W ∧ w.heap.size < W.heap.size ∧ rec4 W w.heap.size x y a b ∧ W.ownsRow (w.heap.size + 1) 25 2 v L.length (cellsP L)
theorem Cst.below {w W W' : World} {x y a b : Int} {v : Value} {L : List (Int × Int)} (h : Cst w W x y a b v L) (hg : Below W.heap.size W W') : Cst w W' x y a b v L := by
  obtain ⟨h1, h2, h3, h5⟩ := h
  have := hg.size
  exact ⟨Gb h1 hg, by omega, h3.below hg (by omega), ownsRow_below h5 hg⟩
theorem Cst.start {w w1 : World} {x y a b : Int} {v : Value} {L : List (Int × Int)} (hg : Below (w.alloc (.cells #[.int .i64 x, .int .i64 y, .int .i64 a, .int .i64 b] 23)).heap.size (w.alloc (.cells #[.int .i64 x, .int .i64 y, .int .i64 a, .int .i64 b] 23)) w1) (ho : w1.ownsRow (w.alloc (.cells #[.int .i64 x, .int .i64 y, .int .i64 a, .int .i64 b] 23)).heap.size 25 2 v L.length (cellsP L)) : Cst w w1 x y a b v L := by
  have h3 : rec4 (w.alloc (.cells #[.int .i64 x, .int .i64 y, .int .i64 a, .int .i64 b] 23)) w.heap.size x y a b := rec4.new _ _ _ _ _ _
  have hs := hg.size
  simp at hs
  refine ⟨?_, by omega, h3.below hg (by simp), ho.mono (by simp)⟩
  exact Below.trans (by go_grown) (hg.mono (by simp))
/-- .. and one tile more, in a block of its own. -/
def Tst (w W : World) (x y a b : Int) (v : Value) (L : List (Int × Int)) (m : Nat) (t : Int × Int) : Prop :=
  Cst w W x y a b v L ∧ rec2 W m t.1 t.2 ∧ w.heap.size < m ∧ m < W.heap.size
theorem Tst.below {w W W' : World} {x y a b : Int} {v : Value} {L : List (Int × Int)} {m : Nat} {t : Int × Int} (h : Tst w W x y a b v L m t) (hg : Below W.heap.size W W') : Tst w W' x y a b v L m t := by
  obtain ⟨h1, h2, h3, h4⟩ := h
  have := hg.size
  exact ⟨h1.below hg, h2.below hg h4, h3, by omega⟩
theorem Tst.put {w W : World} {x y a b : Int} {v : Value} {L : List (Int × Int)} (h : Cst w W x y a b v L) (t : Int × Int) :
    Tst w (W.alloc (.cells #[.int .i64 t.1, .int .i64 t.2] 25)) x y a b v L W.heap.size t := by
  have h2 := h.2.1
  exact ⟨h.below (new_below W _), rec2.new W _ _ 25, h2, by simp⟩
theorem rowP_at {W : World} {base g n cap : Nat} {L : List (Int × Int)} (h : W.ownsRow base 25 2 (.slice (some ⟨g, 0, none⟩) n cap) n (cellsP L)) (hl : L.length = n) (k : Nat) (hk : k < n) :
    W.cell? ⟨g, k * 2, none⟩ = some (.int .i64 (L.getD k (0, 0)).1) ∧ W.cell? ⟨g, k * 2 + 1, none⟩ = some (.int .i64 (L.getD k (0, 0)).2) := by
  obtain ⟨f0, f1⟩ := cellsP_at L k (by omega)
  exact ⟨(h.cellAt (k * 2) (by omega)).trans f0, (h.cellAt (k * 2 + 1) (by omega)).trans f1⟩
theorem getP_mem (L : List (Int × Int)) (k : Nat) (h : k < L.length) : L.getD k (0, 0) ∈ L := by
  rw [List.getD_eq_getElem?_getD, List.getElem?_eq_getElem h]
  exact List.getElem_mem h
theorem shared_at (r : Rc) (L : List (Int × Int)) (k : Nat) (h : k < L.length) : (shared r L).getD k Rc.zero = (Rc.tile (L.getD k (0, 0)).1 (L.getD k (0, 0)).2).meet r := by
  unfold shared
  rw [List.getD_eq_getElem?_getD, List.getD_eq_getElem?_getD, List.getElem?_map, List.getElem?_eq_getElem h]
  rfl
theorem shared_len (r : Rc) (L : List (Int × Int)) : (shared r L).length = L.length := by unfold shared; exact List.length_map ..
theorem tile_big (p q : Int) : (Rc.tile p q).big := by
  unfold Rc.tile Rc.big
  split
  · decide
  · dsimp only
    omega
set_option maxHeartbeats 2000000 in
theorem coversL (x y a b : Int) (w : World) (hx : -9223372036854775808 ≤ x ∧ x ≤ 9223372036854775807) (hy : -9223372036854775808 ≤ y ∧ y ≤ 9223372036854775807) : Calls Try.prog 10 #[.agg #[.int .i64 x, .int .i64 y, .int .i64 a, .int .i64 b]] w fun e w' => e = .returned (.bool true) ∧ Below w.heap.size w w' := by
  have cM := fun w => qTiles x y a b w hx hy
  have tf := tiles_facts ⟨x, y, a, b⟩
  have tl := tiles_len ⟨x, y, a, b⟩
  have c1 := fun w => qEmpty x y a b w hx hy
  have c3 := fun w => qArea x y a b w hx hy
  generalize hL : Rc.tiles ⟨x, y, a, b⟩ = L at *
  obtain ⟨n, hn⟩ : ∃ n, L.length = n := ⟨_, rfl⟩
  rw [hn] at cM tl
  have HN := Lib.hid hn
  have CM := Lib.hid cM
  have C0 := Lib.hid awk
  rcases tf with ⟨t0, t1⟩ | ⟨t0, t1, t2⟩
  · rw [hn] at t0
    subst t0
    clear cM c3 hn
    have hcase : Rc.emp ⟨x, y, a, b⟩ = true ∨ (Rc.emp ⟨x, y, a, b⟩ = false ∧ (100 < a ∨ 100 < b)) := by
      cases h : Rc.emp ⟨x, y, a, b⟩
      · right
        rw [h] at t1
        refine ⟨rfl, ?_⟩
        rcases t1 with t1 | t1
        · cases t1
        · exact t1
      · exact Or.inl rfl
    rcases hcase with h | ⟨h, h2⟩
    · rw [h] at c1
      have C1 := Lib.hid c1
      clear c1 t1 h hL
      go_enter Try.func10, Try.ntmps10
      go_wp2_with (first | (go_at_call 37; refine (CM.out _).mono ?_; rintro e w1 ⟨v, rfl, hg, hown⟩; obtain ⟨ao, cap, rfl, hao, hcap, hcap2⟩ := row_form hown; have hP : Cst w w1 x y a b (.slice ao 0 cap) L := Cst.start hg (by rw [HN.out]; exact hown); (try clear c00 f00 c01 f01 c02 f02 c03 f03); have hP' := hP; obtain ⟨-, hb1, q0, -⟩ := hP'; obtain ⟨⟨c00, c01, c02, c03⟩, f00, f01, f02, f03⟩ := q0) | (go_at_call 12; ((with_reducible refine (C0.out _).mono ?_)); rintro e w1 ⟨rfl, hg⟩; have hP := Cst.below (by assumption) hg; (try clear c00 f00 c01 f01 c02 f02 c03 f03); have hP' := hP; obtain ⟨-, hb1, q0, -⟩ := hP'; obtain ⟨⟨c00, c01, c02, c03⟩, f00, f01, f02, f03⟩ := q0) | (go_at_call 15; ((with_reducible refine (C1.out _).mono ?_)); rintro e w1 ⟨rfl, hg⟩; have hP := Cst.below (by assumption) hg; (try clear c00 f00 c01 f01 c02 f02 c03 f03); have hP' := hP; obtain ⟨-, hb1, q0, -⟩ := hP'; obtain ⟨⟨c00, c01, c02, c03⟩, f00, f01, f02, f03⟩ := q0))
      go_ret
      exact ⟨by simp, hP.1⟩
    · rw [h] at c1
      have C1 := Lib.hid c1
      clear c1 t1 h hL
      rcases (show 100 < a ∨ (¬ 100 < a ∧ 100 < b) by omega) with h3 | ⟨h3, h4⟩
      · clear h2
        go_enter Try.func10, Try.ntmps10
        go_wp2_with (first | (go_at_call 37; refine (CM.out _).mono ?_; rintro e w1 ⟨v, rfl, hg, hown⟩; obtain ⟨ao, cap, rfl, hao, hcap, hcap2⟩ := row_form hown; have hP : Cst w w1 x y a b (.slice ao 0 cap) L := Cst.start hg (by rw [HN.out]; exact hown); (try clear c00 f00 c01 f01 c02 f02 c03 f03); have hP' := hP; obtain ⟨-, hb1, q0, -⟩ := hP'; obtain ⟨⟨c00, c01, c02, c03⟩, f00, f01, f02, f03⟩ := q0) | (go_at_call 12; ((with_reducible refine (C0.out _).mono ?_)); rintro e w1 ⟨rfl, hg⟩; have hP := Cst.below (by assumption) hg; (try clear c00 f00 c01 f01 c02 f02 c03 f03); have hP' := hP; obtain ⟨-, hb1, q0, -⟩ := hP'; obtain ⟨⟨c00, c01, c02, c03⟩, f00, f01, f02, f03⟩ := q0) | (go_at_call 15; ((with_reducible refine (C1.out _).mono ?_)); rintro e w1 ⟨rfl, hg⟩; have hP := Cst.below (by assumption) hg; (try clear c00 f00 c01 f01 c02 f02 c03 f03); have hP' := hP; obtain ⟨-, hb1, q0, -⟩ := hP'; obtain ⟨⟨c00, c01, c02, c03⟩, f00, f01, f02, f03⟩ := q0))
        go_ret
        exact ⟨by simp, hP.1⟩
      · clear h2
        go_enter Try.func10, Try.ntmps10
        go_wp2_with (first | (go_at_call 37; refine (CM.out _).mono ?_; rintro e w1 ⟨v, rfl, hg, hown⟩; obtain ⟨ao, cap, rfl, hao, hcap, hcap2⟩ := row_form hown; have hP : Cst w w1 x y a b (.slice ao 0 cap) L := Cst.start hg (by rw [HN.out]; exact hown); (try clear c00 f00 c01 f01 c02 f02 c03 f03); have hP' := hP; obtain ⟨-, hb1, q0, -⟩ := hP'; obtain ⟨⟨c00, c01, c02, c03⟩, f00, f01, f02, f03⟩ := q0) | (go_at_call 12; ((with_reducible refine (C0.out _).mono ?_)); rintro e w1 ⟨rfl, hg⟩; have hP := Cst.below (by assumption) hg; (try clear c00 f00 c01 f01 c02 f02 c03 f03); have hP' := hP; obtain ⟨-, hb1, q0, -⟩ := hP'; obtain ⟨⟨c00, c01, c02, c03⟩, f00, f01, f02, f03⟩ := q0) | (go_at_call 15; ((with_reducible refine (C1.out _).mono ?_)); rintro e w1 ⟨rfl, hg⟩; have hP := Cst.below (by assumption) hg; (try clear c00 f00 c01 f01 c02 f02 c03 f03); have hP' := hP; obtain ⟨-, hb1, q0, -⟩ := hP'; obtain ⟨⟨c00, c01, c02, c03⟩, f00, f01, f02, f03⟩ := q0))
        go_ret
        exact ⟨by simp, hP.1⟩
  · rw [hn] at t0
    have h0 : ((n : Int) == 0) = false := by simp; omega
    have h1 : decide (4096 < (n : Int)) = false := by simp; omega
    rw [← t2] at c3
    have C3 := Lib.hid c3
    have T1 := Lib.hid t1
    have HL := Lib.hid hL
    clear cM c1 c3 t0 t1 t2 hn hL
    go_enter Try.func10, Try.ntmps10
    go_wp2_with (first | (go_at_call 37; refine (CM.out _).mono ?_; rintro e w1 ⟨v, rfl, hg, hown⟩; obtain ⟨ao, cap, rfl, hao, hcap, hcap2⟩ := row_form hown; have hP : Cst w w1 x y a b (.slice ao n cap) L := Cst.start hg (by rw [HN.out]; exact hown); (try clear c00 f00 c01 f01 c02 f02 c03 f03); have hP' := hP; obtain ⟨-, hb1, q0, -⟩ := hP'; obtain ⟨⟨c00, c01, c02, c03⟩, f00, f01, f02, f03⟩ := q0) | (go_at_call 12; ((with_reducible refine (C0.out _).mono ?_)); rintro e w1 ⟨rfl, hg⟩; have hP := Cst.below (by assumption) hg; (try clear c00 f00 c01 f01 c02 f02 c03 f03); have hP' := hP; obtain ⟨-, hb1, q0, -⟩ := hP'; obtain ⟨⟨c00, c01, c02, c03⟩, f00, f01, f02, f03⟩ := q0))
    have R2 := Lib.hid hao
    clear hao c00 c01 c02 c03 f00 f01 f02 f03
    go_loopw [4, 34] (fun s i wr => ∃ k : Nat, k ≤ n ∧ i = .int .i64 (k : Int) ∧ s = .int .i64 (asum ((shared ⟨x, y, a, b⟩ L).take k)) ∧ Cst w wr x y a b (.slice ao n cap) L) (fun _ i _ => (n - (intOf i).toNat))
    case atStart => exact ⟨0, by omega, rfl, by simp [asum_nil], by assumption⟩
    case round =>
      clear hP
      obtain ⟨k, hk, rfl, rfl, hP⟩ := hrel
      (try clear c00 f00 c01 f01 c02 f02 c03 f03); have hP' := hP; obtain ⟨-, hb1, q0, -⟩ := hP'; obtain ⟨⟨c00, c01, c02, c03⟩, f00, f01, f02, f03⟩ := q0
      by_cases hlt : k < n
      · have hmem := getP_mem L k (by rw [HN.out]; exact hlt)
        have n1 := T1.out _ hmem
        have tk := asum_take (shared ⟨x, y, a, b⟩ L) k (by rw [shared_len, HN.out]; exact hlt)
        rw [shared_at ⟨x, y, a, b⟩ L k (by rw [HN.out]; exact hlt)] at tk
        have tb := asum_bd ((shared ⟨x, y, a, b⟩ L).take k)
        have tl : ((shared ⟨x, y, a, b⟩ L).take k).length ≤ 4096 := by rw [List.length_take]; omega
        obtain ⟨g, rfl⟩ := R2.out (by omega)
        have hown : wr.ownsRow (w.heap.size + 1) 25 2 (.slice (some ⟨g, 0, none⟩) n cap) n (cellsP L) := by have := hP.2.2.2; rwa [HN.out] at this
        obtain ⟨e0, e1⟩ := rowP_at hown HN.out k hlt
        generalize L.getD k (0, 0) = T at *
        have bT := tile_big T.1 T.2
        have cT := fun w => qOfTile T.1 T.2 w
        have cB := fun w => qMeet (Rc.tile T.1 T.2).x (Rc.tile T.1 T.2).y (Rc.tile T.1 T.2).w (Rc.tile T.1 T.2).h x y a b w bT.1 bT.2 hx hy
        change ∀ w, Calls _ _ _ w fun e w' => e = .returned (Rc.val ((Rc.tile T.1 T.2).meet ⟨x, y, a, b⟩)) ∧ _ at cB
        have bR := meet_bd (Rc.tile T.1 T.2) ⟨x, y, a, b⟩
        have aX := area_le ((Rc.tile T.1 T.2).meet ⟨x, y, a, b⟩)
        generalize (Rc.tile T.1 T.2).meet ⟨x, y, a, b⟩ = R at *
        have cA := fun w => qArea R.x R.y R.w R.h w bR.1 bR.2
        change ∀ w, Calls _ _ _ w fun e w' => e = .returned (.int .i64 R.area) ∧ _ at cA
        generalize Rc.tile T.1 T.2 = U at *
        generalize asum ((shared ⟨x, y, a, b⟩ L).take k) = sk at *
        generalize R.area = aK at *
        unfold Rc.val at cT cB
        have CT := Lib.hid cT
        have CB := Lib.hid cB
        have CA := Lib.hid cA
        have TK := Lib.hid tk
        have hge : ¬ aK < 1 := by omega
        have kw : IntKind.i64.wrap (sk + aK) = sk + aK := IntWalk.i64_in _ (by omega)
        have kk : IntKind.i64.wrap ((k : Int) + 1) = (k : Int) + 1 := IntWalk.i64_in _ (by omega)
        have kp : ∀ W w1 : World, (fun W => Tst w W x y a b (.slice (some ⟨g, 0, none⟩) n cap) L wr.heap.size T ∧ W.cell? ⟨w.heap.size, 0, none⟩ = some (.int .i64 x) ∧ W.cell? ⟨w.heap.size, 1, none⟩ = some (.int .i64 y) ∧ W.cell? ⟨w.heap.size, 2, none⟩ = some (.int .i64 a) ∧ W.cell? ⟨w.heap.size, 3, none⟩ = some (.int .i64 b) ∧ W.cell? ⟨wr.heap.size, 0, none⟩ = some (.int .i64 T.1) ∧ W.cell? ⟨wr.heap.size, 1, none⟩ = some (.int .i64 T.2)) W → Below W.heap.size W w1 → (fun W => Tst w W x y a b (.slice (some ⟨g, 0, none⟩) n cap) L wr.heap.size T ∧ W.cell? ⟨w.heap.size, 0, none⟩ = some (.int .i64 x) ∧ W.cell? ⟨w.heap.size, 1, none⟩ = some (.int .i64 y) ∧ W.cell? ⟨w.heap.size, 2, none⟩ = some (.int .i64 a) ∧ W.cell? ⟨w.heap.size, 3, none⟩ = some (.int .i64 b) ∧ W.cell? ⟨wr.heap.size, 0, none⟩ = some (.int .i64 T.1) ∧ W.cell? ⟨wr.heap.size, 1, none⟩ = some (.int .i64 T.2)) w1 := by
          intro W w1 hS hg
          obtain ⟨s0, s1, s2, s3, s4, s5, s6⟩ := hS
          have s7 := s0.1.2.1
          have s8 := s0.2.2.2
          exact ⟨s0.below hg, (hg.cell (by (try dsimp only); omega)).trans s1, (hg.cell (by (try dsimp only); omega)).trans s2, (hg.cell (by (try dsimp only); omega)).trans s3, (hg.cell (by (try dsimp only); omega)).trans s4, (hg.cell (by (try dsimp only); omega)).trans s5, (hg.cell (by (try dsimp only); omega)).trans s6⟩
        have KP := Lib.hid kp
        have hT0 : Tst w (wr.alloc (.cells #[.int .i64 T.1, .int .i64 T.2] 25)).drew x y a b (.slice (some ⟨g, 0, none⟩) n cap) L wr.heap.size T := Tst.below (Tst.put hP T) (Gr.drewN (Gr.refl _) 1).1
        have hlw := hP.2.1
        have z1 : (wr.alloc (.cells #[.int .i64 T.1, .int .i64 T.2] 25)).drew.cell? ⟨w.heap.size, 0, none⟩ = some (.int .i64 x) := (World.cell?_alloc_past _ _ _ hlw).trans c00
        have z2 : (wr.alloc (.cells #[.int .i64 T.1, .int .i64 T.2] 25)).drew.cell? ⟨w.heap.size, 1, none⟩ = some (.int .i64 y) := (World.cell?_alloc_past _ _ _ hlw).trans c01
        have z3 : (wr.alloc (.cells #[.int .i64 T.1, .int .i64 T.2] 25)).drew.cell? ⟨w.heap.size, 2, none⟩ = some (.int .i64 a) := (World.cell?_alloc_past _ _ _ hlw).trans c02
        have z4 : (wr.alloc (.cells #[.int .i64 T.1, .int .i64 T.2] 25)).drew.cell? ⟨w.heap.size, 3, none⟩ = some (.int .i64 b) := (World.cell?_alloc_past _ _ _ hlw).trans c03
        have z5 : (wr.alloc (.cells #[.int .i64 T.1, .int .i64 T.2] 25)).drew.cell? ⟨wr.heap.size, 0, none⟩ = some (.int .i64 T.1) := (World.cell?_alloc_at _ _ _ _ rfl).trans rfl
        have z6 : (wr.alloc (.cells #[.int .i64 T.1, .int .i64 T.2] 25)).drew.cell? ⟨wr.heap.size, 1, none⟩ = some (.int .i64 T.2) := (World.cell?_alloc_at _ _ _ _ rfl).trans rfl
        clear cT cB cA tk tb tl aX bR bT hmem n1 hown kp
        go_wp2_with fail
        go_region_held3 (fun W => Tst w W x y a b (.slice (some ⟨g, 0, none⟩) n cap) L wr.heap.size T ∧ W.cell? ⟨w.heap.size, 0, none⟩ = some (.int .i64 x) ∧ W.cell? ⟨w.heap.size, 1, none⟩ = some (.int .i64 y) ∧ W.cell? ⟨w.heap.size, 2, none⟩ = some (.int .i64 a) ∧ W.cell? ⟨w.heap.size, 3, none⟩ = some (.int .i64 b) ∧ W.cell? ⟨wr.heap.size, 0, none⟩ = some (.int .i64 T.1) ∧ W.cell? ⟨wr.heap.size, 1, none⟩ = some (.int .i64 T.2))
          (first | exact ⟨hT0, z1, z2, z3, z4, z5, z6⟩ | assumption | exact KP.out _ _ (by assumption) hg)
          (first | (go_at_call 34; ((with_reducible refine (CT.out _).mono ?_)); rintro e w1 ⟨rfl, hg⟩) | (go_at_call 23; ((with_reducible refine (CB.out _).mono ?_)); rintro e w1 ⟨rfl, hg⟩) | (go_at_call 19; ((with_reducible refine (CA.out _).mono ?_)); rintro e w1 ⟨rfl, hg⟩))
        obtain ⟨hT1, -, -, -, -, -, -⟩ : Tst w _ x y a b (.slice (some ⟨g, 0, none⟩) n cap) L wr.heap.size T ∧ _ := by assumption
        clear c00 c01 c02 c03 f00 f01 f02 f03 z1 z2 z3 z4 z5 z6 hT0 hP
        go_wp2
        go_roundw
        case rel => exact ⟨k + 1, by omega, by simp, by rw [TK.out], hT1.1⟩
        case measure => simp [intOf]; omega
      · obtain rfl : k = n := by omega
        have HQ := Lib.hid (show asum ((shared ⟨x, y, a, b⟩ L).take k) = asum (shared ⟨x, y, a, b⟩ L) by rw [List.take_of_length_le (by rw [shared_len, HN.out]; exact Nat.le_refl _)])
        rw [HQ.out]
        go_wp2_with (first | (go_at_call 19; ((with_reducible refine (C3.out _).mono ?_)); rintro e w1 ⟨rfl, hg⟩; have hP := Cst.below (by assumption) hg; (try clear c00 f00 c01 f01 c02 f02 c03 f03); have hP' := hP; obtain ⟨-, hb1, q0, -⟩ := hP'; obtain ⟨⟨c00, c01, c02, c03⟩, f00, f01, f02, f03⟩ := q0))
        go_ret
        exact ⟨by simp, hP.1⟩

end Go.Proofs.Ytbkhfebopmeanaa
