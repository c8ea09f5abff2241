import Derived.Test.YtbkhfebopmeanaaProg
import Derived.WalkKit
import Derived.WalkLawsBesides
import Derived.Outline
import Derived.Lib.Walk
import Derived.Deep.QuietTactic
import Derived.BigQuiet
import Derived.RowKit3
import Derived.Deep.LoopGhost
import Derived.Great.Walk
import Derived.Great.BuildSlice
import Derived.Laws.Rows
import Derived.Laws.Tables
import Derived.Laws.CopyOwn
import Derived.Lib.Hide
import Derived.Handy
import Derived.Test.YtbkhfebopmeanaaV2
import Derived.Test.YtbkhfebopmeanaaV3
import Derived.Test.YtbkhfebopmeanaaV4
import Derived.Test.YtbkhfebopmeanaaV5
import Derived.Test.YtbkhfebopmeanaaV6
import Derived.StillTailTactics
import Derived.Test.YtbkhfebopmeanaaV7
import Derived.Test.YtbkhfebopmeanaaV8
import Derived.Deep.Onto
import Derived.Test.YtbkhfebopmeanaaV9
namespace Go.Proofs.Ytbkhfebopmeanaa
open Go.RowKit
set_option maxHeartbeats 400000
set_option linter.unusedVariables false
/-- the cells of a list of points. -/
def cellsP (l : List (Int × Int)) : List Value := l.flatMap fun p => [.int .i64 p.1, .int .i64 p.2]
/-- points side by side. -/
def rowT (x y : Int) (k : Nat) : List (Int × Int) := (List.range k).map fun i : Nat => (x + (i : Int), y)
/-- rows of n points. -/
def colT (x y : Int) (n k : Nat) : List (Int × Int) := (List.range k).flatMap fun j : Nat => rowT x (y + (j : Int)) n
theorem rowT_succ (x y : Int) (k : Nat) : rowT x y (k + 1) = rowT x y k ++ [(x + k, y)] := by unfold rowT; rw [List.range_succ, List.map_append]; rfl
theorem colT_succ (x y : Int) (n k : Nat) : colT x y n (k + 1) = colT x y n k ++ rowT x (y + k) n := by unfold colT; rw [List.range_succ, List.flatMap_append]; simp
theorem rowT_len (x y : Int) (k : Nat) : (rowT x y k).length = k := by simp [rowT]
theorem colT_len (x y : Int) (n k : Nat) : (colT x y n k).length = k * n := by
  induction k with
  | zero => simp [colT]
  | succ k ih => rw [colT_succ, List.length_append, ih, rowT_len, Nat.succ_mul]
theorem cellsP_append (a b : List (Int × Int)) : cellsP (a ++ b) = cellsP a ++ cellsP b := List.flatMap_append
theorem part_len {x y z : Int} {n m j i : Nat} (h : m * n ≤ 4096) (hj : j < m) (hi : i ≤ n) : (colT x y n j ++ rowT x z i).length ≤ 4096 := by
  rw [List.length_append, colT_len, rowT_len]
  have : (j + 1) * n ≤ m * n := Nat.mul_le_mul_right n hj
  rw [Nat.succ_mul] at this
  omega
/-- how many tiles lie between two coordinates. -/
def cnt (a b : Int) : Nat := (til b - til a + 1).toNat
/-- the tiles that a rectangle meets; none where they are too many. -/
def Rc.tiles (r : Rc) : List (Int × Int) := if r.emp then [] else if 4096 < cnt r.x0 r.x1 * cnt r.y0 r.y1 then [] else colT (til r.x0) (til r.y0) (cnt r.x0 r.x1) (cnt r.y0 r.y1)
theorem x0_le (r : Rc) (h : r.emp = false) : r.x0 ≤ r.x1 ∧ r.y0 ≤ r.y1 := by
  obtain ⟨x, y, a, b⟩ := r
  have hw := rc_ways x y a b
  unfold Rc.x0 Rc.x1 Rc.y0 Rc.y1
  rw [h] at *
  rcases hw with ⟨_, h2⟩ | ⟨_, _, h2⟩ | ⟨_, _, _, h2⟩ | ⟨h1, h2, h3, _⟩
  · cases h2
  · cases h2
  · cases h2
  · have := vld_bd h1
    simp at h2 h3 ⊢
    omega
theorem til_le {a b : Int} (h : a ≤ b) : til a ≤ til b := by unfold til; omega
theorem til_bd {a : Int} (h : -1048576 ≤ a) (h' : a ≤ 1048576) : -65536 ≤ til a ∧ til a ≤ 65536 := by unfold til; omega
theorem mul_bd {n m : Nat} (h : (n : Int) ≤ 131073) (h' : (m : Int) ≤ 131073) : 0 ≤ (n : Int) * (m : Int) ∧ (n : Int) * (m : Int) ≤ 17180131329 := by
  have h1 : 0 ≤ (n : Int) * (m : Int) := Int.mul_nonneg (by omega) (by omega)
  have h2 : (n : Int) * (m : Int) ≤ 131073 * 131073 := Int.mul_le_mul h h' (by omega) (by omega)
  omega
theorem info25 : (Try.prog.info? 25).map (fun i => (i.zero, i.size, i.bytes)) = some (some (.agg #[.int .i64 0, .int .i64 0]), 2, 16) := by kernel_rfl
set_option maxRecDepth 100000 in
theorem t38 (x y a b : Int) (w : World) (hx : -9223372036854775808 ≤ x) (hx' : x ≤ 9223372036854775807) (hy : -9223372036854775808 ≤ y) (hy' : y ≤ 9223372036854775807) :
    Calls Try.prog 38 #[.agg #[.int .i64 x, .int .i64 y, .int .i64 a, .int .i64 b]] w fun e w' => ∃ v, e = .returned v ∧ Below w.heap.size w w' ∧ w'.ownsRow w.heap.size 25 2 v (Rc.tiles ⟨x, y, a, b⟩).length (cellsP (Rc.tiles ⟨x, y, a, b⟩)) := by
  cases h1 : Rc.emp ⟨x, y, a, b⟩
  · obtain ⟨u1, u2, u3, u4, u5, u6, u7, u8⟩ := x0_bd ⟨x, y, a, b⟩
    obtain ⟨o1, o2⟩ := x0_le ⟨x, y, a, b⟩ h1
    have c0 := fun w => t48 (Rc.x0 ⟨x, y, a, b⟩) w (by omega) (by omega)
    have c1 := fun w => t48 (Rc.x1 ⟨x, y, a, b⟩) w (by omega) (by omega)
    have c2 := fun w => t48 (Rc.y0 ⟨x, y, a, b⟩) w (by omega) (by omega)
    have c3 := fun w => t48 (Rc.y1 ⟨x, y, a, b⟩) w (by omega) (by omega)
    have p0 := til_le o1
    have p1 := til_le o2
    obtain ⟨q0, q1⟩ := til_bd u1 u2
    obtain ⟨q2, q3⟩ := til_bd (a := (Rc.x1 ⟨x, y, a, b⟩)) (by omega) u4
    obtain ⟨q4, q5⟩ := til_bd u5 u6
    obtain ⟨q6, q7⟩ := til_bd (a := (Rc.y1 ⟨x, y, a, b⟩)) (by omega) u8
    have hn : (cnt (Rc.x0 ⟨x, y, a, b⟩) (Rc.x1 ⟨x, y, a, b⟩) : Int) = til (Rc.x1 ⟨x, y, a, b⟩) - til (Rc.x0 ⟨x, y, a, b⟩) + 1 := by unfold cnt; omega
    have hm : (cnt (Rc.y0 ⟨x, y, a, b⟩) (Rc.y1 ⟨x, y, a, b⟩) : Int) = til (Rc.y1 ⟨x, y, a, b⟩) - til (Rc.y0 ⟨x, y, a, b⟩) + 1 := by unfold cnt; omega
    by_cases h2 : 4096 < cnt (Rc.x0 ⟨x, y, a, b⟩) (Rc.x1 ⟨x, y, a, b⟩) * cnt (Rc.y0 ⟨x, y, a, b⟩) (Rc.y1 ⟨x, y, a, b⟩)
    · have E : Rc.tiles ⟨x, y, a, b⟩ = [] := by unfold Rc.tiles; rw [h1, if_neg (by simp), if_pos h2]
      rw [E]
      clear E
      have hnn := mul_bd (n := cnt (Rc.x0 ⟨x, y, a, b⟩) (Rc.x1 ⟨x, y, a, b⟩)) (m := cnt (Rc.y0 ⟨x, y, a, b⟩) (Rc.y1 ⟨x, y, a, b⟩)) (by omega) (by omega)
      generalize cnt (Rc.x0 ⟨x, y, a, b⟩) (Rc.x1 ⟨x, y, a, b⟩) = n at *
      generalize cnt (Rc.y0 ⟨x, y, a, b⟩) (Rc.y1 ⟨x, y, a, b⟩) = m at *
      generalize til (Rc.x0 ⟨x, y, a, b⟩) = a0 at *
      generalize til (Rc.x1 ⟨x, y, a, b⟩) = a1 at *
      generalize til (Rc.y0 ⟨x, y, a, b⟩) = b0 at *
      generalize til (Rc.y1 ⟨x, y, a, b⟩) = b1 at *
      rw [hn, hm] at hnn
      obtain ⟨hn1, hn2⟩ := hnn
      have C0 := Lib.hid c0
      have C1 := Lib.hid c1
      have C2 := Lib.hid c2
      have C3 := Lib.hid c3
      have hbig : 4096 < (a1 - a0 + 1) * (b1 - b0 + 1) := by
        rw [← hn, ← hm]
        exact_mod_cast h2
      have k1 : IntKind.i64.wrap (a1 - a0) = a1 - a0 := IntWalk.i64_in _ (by omega)
      have k2 : IntKind.i64.wrap (a1 - a0 + 1) = a1 - a0 + 1 := IntWalk.i64_in _ (by omega)
      have k3 : IntKind.i64.wrap (b1 - b0) = b1 - b0 := IntWalk.i64_in _ (by omega)
      have k4 : IntKind.i64.wrap (b1 - b0 + 1) = b1 - b0 + 1 := IntWalk.i64_in _ (by omega)
      have k5 : IntKind.i64.wrap ((a1 - a0 + 1) * (b1 - b0 + 1)) = (a1 - a0 + 1) * (b1 - b0 + 1) := IntWalk.i64_in _ (by omega)
      clear c0 c1 c2 c3 u1 u2 u3 u4 u5 u6 u7 u8 o1 o2 hn1 hn2
      go_enter Try.func38, Try.ntmps38
      go_wp2_with (first | (go_at_call 49; ((with_reducible refine (C0.out _).mono ?_)); rintro e w2 ⟨rfl, rfl⟩) | (go_at_call 49; ((with_reducible refine (C1.out _).mono ?_)); rintro e w2 ⟨rfl, rfl⟩) | (go_at_call 49; ((with_reducible refine (C2.out _).mono ?_)); rintro e w2 ⟨rfl, rfl⟩) | (go_at_call 49; ((with_reducible refine (C3.out _).mono ?_)); rintro e w2 ⟨rfl, rfl⟩) | (first | (go_at_call 16; refine (t16 _ _ _ _ _ (by assumption) (by assumption) (by assumption) (by assumption)).mono ?_; rintro e w1 ⟨rfl, hg⟩; obtain ⟨hc, hf⟩ := bcell hg.1; have hz : w.heap.size < w1.heap.size := (by have := hg.1.size; (try simp at this); omega); have G : Gr w w1 := (by first | exact Gr.trans (by assumption) hg | (obtain ⟨G1, G2⟩ := G; refine Gr.trans ?_ hg; constructor <;> go_grown; done) | (refine Gr.trans ?_ hg; constructor <;> go_grown; done))) | (go_at_call 41; ((with_reducible refine (t40_0 _ _ _ _ _ (by assumption) (by assumption) (by assumption) (by assumption)).mono ?_)); rintro e w1 ⟨rfl, hg⟩; obtain ⟨hc, hf⟩ := bcell hg.1; have hz : w.heap.size < w1.heap.size := (by have := hg.1.size; (try simp at this); omega); have G : Gr w w1 := (by first | exact Gr.trans (by assumption) hg | (obtain ⟨G1, G2⟩ := G; refine Gr.trans ?_ hg; constructor <;> go_grown; done) | (refine Gr.trans ?_ hg; constructor <;> go_grown; done))) | (go_at_call 41; ((with_reducible refine (t40_1 _ _ _ _ _ (by assumption) (by assumption) (by assumption) (by assumption)).mono ?_)); rintro e w1 ⟨rfl, hg⟩; obtain ⟨hc, hf⟩ := bcell hg.1; have hz : w.heap.size < w1.heap.size := (by have := hg.1.size; (try simp at this); omega); have G : Gr w w1 := (by first | exact Gr.trans (by assumption) hg | (obtain ⟨G1, G2⟩ := G; refine Gr.trans ?_ hg; constructor <;> go_grown; done) | (refine Gr.trans ?_ hg; constructor <;> go_grown; done)))))
      go_ret
      exact ⟨_, rfl, G.1, World.ownsRow_nil _ _ _ _⟩
    · have E : Rc.tiles ⟨x, y, a, b⟩ = colT (til (Rc.x0 ⟨x, y, a, b⟩)) (til (Rc.y0 ⟨x, y, a, b⟩)) (cnt (Rc.x0 ⟨x, y, a, b⟩) (Rc.x1 ⟨x, y, a, b⟩)) (cnt (Rc.y0 ⟨x, y, a, b⟩) (Rc.y1 ⟨x, y, a, b⟩)) := by unfold Rc.tiles; rw [h1, if_neg (by simp), if_neg h2]
      rw [E]
      clear E
      have hnn := mul_bd (n := cnt (Rc.x0 ⟨x, y, a, b⟩) (Rc.x1 ⟨x, y, a, b⟩)) (m := cnt (Rc.y0 ⟨x, y, a, b⟩) (Rc.y1 ⟨x, y, a, b⟩)) (by omega) (by omega)
      generalize cnt (Rc.x0 ⟨x, y, a, b⟩) (Rc.x1 ⟨x, y, a, b⟩) = n at *
      generalize cnt (Rc.y0 ⟨x, y, a, b⟩) (Rc.y1 ⟨x, y, a, b⟩) = m at *
      generalize til (Rc.x0 ⟨x, y, a, b⟩) = a0 at *
      generalize til (Rc.x1 ⟨x, y, a, b⟩) = a1 at *
      generalize til (Rc.y0 ⟨x, y, a, b⟩) = b0 at *
      generalize til (Rc.y1 ⟨x, y, a, b⟩) = b1 at *
      rw [hn, hm] at hnn
      obtain ⟨hn1, hn2⟩ := hnn
      have C0 := Lib.hid c0
      have C1 := Lib.hid c1
      have C2 := Lib.hid c2
      have C3 := Lib.hid c3
      have hsm : (a1 - a0 + 1) * (b1 - b0 + 1) ≤ 4096 := by
        rw [← hn, ← hm]
        exact_mod_cast (Nat.le_of_not_lt h2)
      have k1 : IntKind.i64.wrap (a1 - a0) = a1 - a0 := IntWalk.i64_in _ (by omega)
      have k2 : IntKind.i64.wrap (a1 - a0 + 1) = a1 - a0 + 1 := IntWalk.i64_in _ (by omega)
      have k3 : IntKind.i64.wrap (b1 - b0) = b1 - b0 := IntWalk.i64_in _ (by omega)
      have k4 : IntKind.i64.wrap (b1 - b0 + 1) = b1 - b0 + 1 := IntWalk.i64_in _ (by omega)
      have k5 : IntKind.i64.wrap ((a1 - a0 + 1) * (b1 - b0 + 1)) = (a1 - a0 + 1) * (b1 - b0 + 1) := IntWalk.i64_in _ (by omega)
      have HS := Lib.hid (show m * n ≤ 4096 by rw [Nat.mul_comm]; omega)
      clear c0 c1 c2 c3 u1 u2 u3 u4 u5 u6 u7 u8 o1 o2 hn1 hn2 h2
      obtain ⟨i0, hi, hz0', hz1, hz2⟩ := info_parts info25
      go_enter Try.func38, Try.ntmps38
      go_wp2_with (first | (go_at_call 49; ((with_reducible refine (C0.out _).mono ?_)); rintro e w2 ⟨rfl, rfl⟩) | (go_at_call 49; ((with_reducible refine (C1.out _).mono ?_)); rintro e w2 ⟨rfl, rfl⟩) | (go_at_call 49; ((with_reducible refine (C2.out _).mono ?_)); rintro e w2 ⟨rfl, rfl⟩) | (go_at_call 49; ((with_reducible refine (C3.out _).mono ?_)); rintro e w2 ⟨rfl, rfl⟩) | (first | (go_at_call 16; refine (t16 _ _ _ _ _ (by assumption) (by assumption) (by assumption) (by assumption)).mono ?_; rintro e w1 ⟨rfl, hg⟩; obtain ⟨hc, hf⟩ := bcell hg.1; have hz : w.heap.size < w1.heap.size := (by have := hg.1.size; (try simp at this); omega); have G : Gr w w1 := (by first | exact Gr.trans (by assumption) hg | (obtain ⟨G1, G2⟩ := G; refine Gr.trans ?_ hg; constructor <;> go_grown; done) | (refine Gr.trans ?_ hg; constructor <;> go_grown; done))) | (go_at_call 41; ((with_reducible refine (t40_0 _ _ _ _ _ (by assumption) (by assumption) (by assumption) (by assumption)).mono ?_)); rintro e w1 ⟨rfl, hg⟩; obtain ⟨hc, hf⟩ := bcell hg.1; have hz : w.heap.size < w1.heap.size := (by have := hg.1.size; (try simp at this); omega); have G : Gr w w1 := (by first | exact Gr.trans (by assumption) hg | (obtain ⟨G1, G2⟩ := G; refine Gr.trans ?_ hg; constructor <;> go_grown; done) | (refine Gr.trans ?_ hg; constructor <;> go_grown; done))) | (go_at_call 41; ((with_reducible refine (t40_1 _ _ _ _ _ (by assumption) (by assumption) (by assumption) (by assumption)).mono ?_)); rintro e w1 ⟨rfl, hg⟩; obtain ⟨hc, hf⟩ := bcell hg.1; have hz : w.heap.size < w1.heap.size := (by have := hg.1.size; (try simp at this); omega); have G : Gr w w1 := (by first | exact Gr.trans (by assumption) hg | (obtain ⟨G1, G2⟩ := G; refine Gr.trans ?_ hg; constructor <;> go_grown; done) | (refine Gr.trans ?_ hg; constructor <;> go_grown; done)))))
      have hW := G.1
      clear k1 k2 k3 k4 k5 hsm
      go_loopw [7, 8] (fun v i wr => ∃ j : Nat, j ≤ m ∧ i = .int .i64 (b0 + j) ∧ wr.ownsRow w.heap.size 25 2 v (colT a0 b0 n j).length (cellsP (colT a0 b0 n j)) ∧ Below w.heap.size w wr) (fun _ i _ => (b1 + 1 - intOf i).toNat)
      case atStart => exact ⟨0, by omega, by simp, World.ownsRow_nil _ _ _ _, hW⟩
      case round =>
        obtain ⟨j, hj, rfl, hown, hnx⟩ := hrel
        by_cases hlt : j < m
        · have r1 : IntKind.i64.wrap (b0 + j + 1) = b0 + j + 1 := IntWalk.i64_in _ (by omega)
          go_wp2_with (first | (go_at_call 49; ((with_reducible refine (C0.out _).mono ?_)); rintro e w2 ⟨rfl, rfl⟩) | (go_at_call 49; ((with_reducible refine (C1.out _).mono ?_)); rintro e w2 ⟨rfl, rfl⟩) | (go_at_call 49; ((with_reducible refine (C2.out _).mono ?_)); rintro e w2 ⟨rfl, rfl⟩) | (go_at_call 49; ((with_reducible refine (C3.out _).mono ?_)); rintro e w2 ⟨rfl, rfl⟩) | (first | (go_at_call 16; refine (t16 _ _ _ _ _ (by assumption) (by assumption) (by assumption) (by assumption)).mono ?_; rintro e w1 ⟨rfl, hg⟩; obtain ⟨hc, hf⟩ := bcell hg.1; have hz : w.heap.size < w1.heap.size := (by have := hg.1.size; (try simp at this); omega); have G : Gr w w1 := (by first | exact Gr.trans (by assumption) hg | (obtain ⟨G1, G2⟩ := G; refine Gr.trans ?_ hg; constructor <;> go_grown; done) | (refine Gr.trans ?_ hg; constructor <;> go_grown; done))) | (go_at_call 41; ((with_reducible refine (t40_0 _ _ _ _ _ (by assumption) (by assumption) (by assumption) (by assumption)).mono ?_)); rintro e w1 ⟨rfl, hg⟩; obtain ⟨hc, hf⟩ := bcell hg.1; have hz : w.heap.size < w1.heap.size := (by have := hg.1.size; (try simp at this); omega); have G : Gr w w1 := (by first | exact Gr.trans (by assumption) hg | (obtain ⟨G1, G2⟩ := G; refine Gr.trans ?_ hg; constructor <;> go_grown; done) | (refine Gr.trans ?_ hg; constructor <;> go_grown; done))) | (go_at_call 41; ((with_reducible refine (t40_1 _ _ _ _ _ (by assumption) (by assumption) (by assumption) (by assumption)).mono ?_)); rintro e w1 ⟨rfl, hg⟩; obtain ⟨hc, hf⟩ := bcell hg.1; have hz : w.heap.size < w1.heap.size := (by have := hg.1.size; (try simp at this); omega); have G : Gr w w1 := (by first | exact Gr.trans (by assumption) hg | (obtain ⟨G1, G2⟩ := G; refine Gr.trans ?_ hg; constructor <;> go_grown; done) | (refine Gr.trans ?_ hg; constructor <;> go_grown; done)))))
          clear r1
          go_loopw [7, 9] (fun v i wi => ∃ k : Nat, k ≤ n ∧ i = .int .i64 (a0 + k) ∧ wi.ownsRow w.heap.size 25 2 v (colT a0 b0 n j ++ rowT a0 (b0 + j) k).length (cellsP (colT a0 b0 n j ++ rowT a0 (b0 + j) k)) ∧ Below w.heap.size w wi) (fun _ i _ => (a1 + 1 - intOf i).toNat)
          case atStart => exact ⟨0, by omega, by simp, by (rw [show colT a0 b0 n j ++ rowT a0 (b0 + j) 0 = colT a0 b0 n j by simp [rowT]]; exact hown), hnx⟩
          case round =>
            clear hown hnx
            obtain ⟨k, hk, rfl, hown, hnx⟩ := hrel
            by_cases hkl : k < n
            · have hpl := part_len (x := a0) (y := b0) (z := b0 + j) HS.out hlt (i := k + 1) (by omega)
              have e1 : colT a0 b0 n j ++ rowT a0 (b0 + j) (k + 1) = (colT a0 b0 n j ++ rowT a0 (b0 + j) k) ++ [(a0 + (k : Int), b0 + (j : Int))] := by rw [rowT_succ, List.append_assoc]
              have e2 : (colT a0 b0 n j ++ rowT a0 (b0 + j) (k + 1)).length = (colT a0 b0 n j ++ rowT a0 (b0 + j) k).length + 1 := by rw [e1, List.length_append]; rfl
              have e3 : cellsP (colT a0 b0 n j ++ rowT a0 (b0 + j) (k + 1)) = cellsP (colT a0 b0 n j ++ rowT a0 (b0 + j) k) ++ [.int .i64 (a0 + (k : Int)), .int .i64 (b0 + (j : Int))] := by rw [e1, cellsP_append]; rfl
              clear e1
              generalize hL' : colT a0 b0 n j ++ rowT a0 (b0 + j) (k + 1) = L' at *
              have HL' := Lib.hid hL'
              clear hL'
              generalize colT a0 b0 n j ++ rowT a0 (b0 + j) k = L at *
              have E2 := Lib.hid e2
              have E3 := Lib.hid e3
              have PL := Lib.hid (show L.length + 1 ≤ 4096 by omega)
              clear e2 e3 hpl
              go_wp2_with (first | (go_at_call 49; ((with_reducible refine (C1.out _).mono ?_)); rintro e w2 ⟨rfl, rfl⟩) | (at_builtin; refine wpList_append_own _ rfl _ _ 40 rfl w.heap.size 25 i0 (.agg #[.int .i64 0, .int .i64 0]) 2 16 Try.underlying40 hi hz0' hz1 hz2 rfl (by decide) _ _ _ rfl (hown.alloc _) ⟨wr.heap.size, 0, none⟩ 1 1 [.int .i64 (a0 + k), .int .i64 (b0 + j)] rfl rfl ?c1 ?c2 ?c3 ?c4 ?c5 ?_))
              case c1 =>
                intro j u hj
                match j, hj with
                | 0, hj => simp at hj; subst hj; simp [Addr.add]
                | 1, hj => simp at hj; subst hj; simp [Addr.add]
              case c2 => intro u hu; simp at hu; rcases hu with rfl | rfl <;> rfl
              case c3 => have := PL.out; unfold maxLen; omega
              case c4 => have := PL.out; omega
              case c5 => have := hnx.size; simp; omega
              intro v' w3 hown' hgrow _
              have hnx3 : Below w.heap.size w w3 := rel_append hnx hown (Gr.refl _) hnx.size hgrow
              rw [← E2.out, ← E3.out] at hown'
              clear hgrow hown hnx
              go_wp2
              go_roundw
              case rel => exact ⟨k + 1, by omega, by simp; omega, by rw [HL'.out]; exact hown', hnx3⟩
              case measure => simp [intOf]; omega
            · obtain rfl : k = n := by omega
              go_wp2_with (first | (go_at_call 49; ((with_reducible refine (C1.out _).mono ?_)); rintro e w2 ⟨rfl, rfl⟩))
              have r1 : IntKind.i64.wrap (b0 + j + 1) = b0 + j + 1 := IntWalk.i64_in _ (by omega)
              go_wp2
              go_roundw
              case rel => exact ⟨j + 1, by omega, by simp; omega, by rw [colT_succ]; exact hown, hnx⟩
              case measure => simp [intOf]; omega
        · obtain rfl : j = m := by omega
          go_wp2_with (first | (go_at_call 49; ((with_reducible refine (C0.out _).mono ?_)); rintro e w2 ⟨rfl, rfl⟩) | (go_at_call 49; ((with_reducible refine (C1.out _).mono ?_)); rintro e w2 ⟨rfl, rfl⟩) | (go_at_call 49; ((with_reducible refine (C2.out _).mono ?_)); rintro e w2 ⟨rfl, rfl⟩) | (go_at_call 49; ((with_reducible refine (C3.out _).mono ?_)); rintro e w2 ⟨rfl, rfl⟩) | (first | (go_at_call 16; refine (t16 _ _ _ _ _ (by assumption) (by assumption) (by assumption) (by assumption)).mono ?_; rintro e w1 ⟨rfl, hg⟩; obtain ⟨hc, hf⟩ := bcell hg.1; have hz : w.heap.size < w1.heap.size := (by have := hg.1.size; (try simp at this); omega); have G : Gr w w1 := (by first | exact Gr.trans (by assumption) hg | (obtain ⟨G1, G2⟩ := G; refine Gr.trans ?_ hg; constructor <;> go_grown; done) | (refine Gr.trans ?_ hg; constructor <;> go_grown; done))) | (go_at_call 41; ((with_reducible refine (t40_0 _ _ _ _ _ (by assumption) (by assumption) (by assumption) (by assumption)).mono ?_)); rintro e w1 ⟨rfl, hg⟩; obtain ⟨hc, hf⟩ := bcell hg.1; have hz : w.heap.size < w1.heap.size := (by have := hg.1.size; (try simp at this); omega); have G : Gr w w1 := (by first | exact Gr.trans (by assumption) hg | (obtain ⟨G1, G2⟩ := G; refine Gr.trans ?_ hg; constructor <;> go_grown; done) | (refine Gr.trans ?_ hg; constructor <;> go_grown; done))) | (go_at_call 41; ((with_reducible refine (t40_1 _ _ _ _ _ (by assumption) (by assumption) (by assumption) (by assumption)).mono ?_)); rintro e w1 ⟨rfl, hg⟩; obtain ⟨hc, hf⟩ := bcell hg.1; have hz : w.heap.size < w1.heap.size := (by have := hg.1.size; (try simp at this); omega); have G : Gr w w1 := (by first | exact Gr.trans (by assumption) hg | (obtain ⟨G1, G2⟩ := G; refine Gr.trans ?_ hg; constructor <;> go_grown; done) | (refine Gr.trans ?_ hg; constructor <;> go_grown; done)))))
          go_ret
          exact ⟨_, rfl, hnx, hown⟩
  · have E : Rc.tiles ⟨x, y, a, b⟩ = [] := by unfold Rc.tiles; rw [h1]; rfl
    rw [E]
    clear E
    go_enter Try.func38, Try.ntmps38
    go_wp2_with (first | (go_at_call 16; refine (t16 _ _ _ _ _ (by assumption) (by assumption) (by assumption) (by assumption)).mono ?_; rintro e w1 ⟨rfl, hg⟩; obtain ⟨hc, hf⟩ := bcell hg.1; have hz : w.heap.size < w1.heap.size := (by have := hg.1.size; (try simp at this); omega); have G : Gr w w1 := (by first | exact Gr.trans (by assumption) hg | (obtain ⟨G1, G2⟩ := G; refine Gr.trans ?_ hg; constructor <;> go_grown; done) | (refine Gr.trans ?_ hg; constructor <;> go_grown; done))))
    go_ret
    exact ⟨_, rfl, by obtain ⟨G1, G2⟩ := G; go_grown, World.ownsRow_nil _ _ _ _⟩
end Go.Proofs.Ytbkhfebopmeanaa
