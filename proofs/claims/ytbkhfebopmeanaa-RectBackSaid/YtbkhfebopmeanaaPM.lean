import Derived.Test.YtbkhfebopmeanaaProg
import Derived.WalkKit
import Derived.WalkLawsBesides
import Derived.Outline
import Derived.Lib.Walk
import Derived.Deep.QuietTactic
import Derived.BigQuiet
import Derived.RowKit3
import Derived.Deep.LoopGhost
import Derived.Great.Walk
import Derived.Great.BuildSlice
import Derived.Laws.Rows
import Derived.Laws.Tables
import Derived.Laws.CopyOwn
import Derived.Lib.Hide
import Derived.Handy
import Derived.StillTactics
import Derived.Test.YtbkhfebopmeanaaV2
import Derived.Test.YtbkhfebopmeanaaV3
import Derived.Test.YtbkhfebopmeanaaV4
import Derived.Test.YtbkhfebopmeanaaPL
import Derived.Test.YtbkhfebopmeanaaV10
namespace Go.Proofs.Ytbkhfebopmeanaa
open Go.RowKit
set_option maxHeartbeats 400000
set_option linter.unusedVariables false
theorem lt_of_rec {W : World} {k : Nat} {x y a b : Int} (h : rec4 W k x y a b) : k < W.heap.size := by
  rcases Nat.lt_or_ge k W.heap.size with h' | h'
  · exact h'
  · have h0 := h.1.1
    simp [World.cell?, Array.getElem?_eq_none h'] at h0
set_option maxHeartbeats 4000000 in
set_option maxRecDepth 100000 in
theorem p37 (x y a b : Int) (w : World) : Calls Try.prog 37 #[.agg #[.int .i64 x, .int .i64 y, .int .i64 a, .int .i64 b]] w fun e w' => ∃ v, e = .returned v ∧ Below w.heap.size w w' ∧ w'.ownsRow w.heap.size 25 2 v (Rc.tiles ⟨x, y, a, b⟩).length (cellsP (Rc.tiles ⟨x, y, a, b⟩)) := by
  have cE := fun w => p15 x y a b w
  cases h1 : Rc.emp ⟨x, y, a, b⟩
  · rw [h1] at cE
    obtain ⟨s0, s1, s2, s3, s4⟩ := sol_x0 ⟨x, y, a, b⟩ h1
    obtain ⟨b1, b2, b3, b4, b5, b6, b7, b8, b9, b10⟩ := sol_bd ⟨x, y, a, b⟩
    obtain ⟨u1, u2, u3, u4, u5, u6, u7, u8⟩ := x0_bd ⟨x, y, a, b⟩
    obtain ⟨o1, o2⟩ := x0_le ⟨x, y, a, b⟩ h1
    rw [s0] at b1 b2 b3 b4 b5 b6 b7 b8 b9 b10
    dsimp only at s1 s2 s3 s4 b1 b2 b3 b4 b5 b6 b7 b8 b9 b10
    have hT : Rc.tiles ⟨x, y, a, b⟩ = if 4096 < cnt x (x + a - 1) * cnt y (y + b - 1) then [] else colT (til x) (til y) (cnt x (x + a - 1)) (cnt y (y + b - 1)) := by
      unfold Rc.tiles
      rw [h1, s1, s2, s3, s4]
      rfl
    rw [hT]
    rw [s1, s2] at o1
    rw [s3, s4] at o2
    rw [s1] at u1 u2
    rw [s2] at u3 u4
    rw [s3] at u5 u6
    rw [s4] at u7 u8
    have c0 := fun w => p48 (x) w (by omega) (by omega)
    have c1 := fun w => p48 (x + a - 1) w (by omega) (by omega)
    have c2 := fun w => p48 (y) w (by omega) (by omega)
    have c3 := fun w => p48 (y + b - 1) w (by omega) (by omega)
    have p0 := til_le o1
    have p1 := til_le o2
    obtain ⟨q0, q1⟩ := til_bd u1 u2
    obtain ⟨q2, q3⟩ := til_bd (a := x + a - 1) (by omega) u4
    obtain ⟨q4, q5⟩ := til_bd u5 u6
    obtain ⟨q6, q7⟩ := til_bd (a := y + b - 1) (by omega) u8
    have hn : (cnt x (x + a - 1) : Int) = til (x + a - 1) - til x + 1 := by unfold cnt; omega
    have hm : (cnt y (y + b - 1) : Int) = til (y + b - 1) - til y + 1 := by unfold cnt; omega
    have hnn := mul_bd (n := cnt x (x + a - 1)) (m := cnt y (y + b - 1)) (by omega) (by omega)
    have e1 : IntKind.i64.wrap (x + a) = x + a := IntWalk.i64_in _ (by omega)
    have e2 : IntKind.i64.wrap (x + a - 1) = x + a - 1 := IntWalk.i64_in _ (by omega)
    have e3 : IntKind.i64.wrap (y + b) = y + b := IntWalk.i64_in _ (by omega)
    have e4 : IntKind.i64.wrap (y + b - 1) = y + b - 1 := IntWalk.i64_in _ (by omega)
    clear hT s0 s1 s2 s3 s4 b1 b2 b3 b4 b5 b6 b7 b8 b9 b10 u1 u2 u3 u4 u5 u6 u7 u8 h1
    generalize cnt x (x + a - 1) = n at *
    generalize cnt y (y + b - 1) = m at *
    generalize til x = a0 at *
    generalize til (x + a - 1) = a1 at *
    generalize til y = b0 at *
    generalize til (y + b - 1) = b1 at *
    have CE := Lib.hid cE
    have C0 := Lib.hid c0
    have C1 := Lib.hid c1
    have C2 := Lib.hid c2
    have C3 := Lib.hid c3
    have k1 : IntKind.i64.wrap (a1 - a0) = a1 - a0 := IntWalk.i64_in _ (by omega)
    have k2 : IntKind.i64.wrap (a1 - a0 + 1) = a1 - a0 + 1 := IntWalk.i64_in _ (by omega)
    have k3 : IntKind.i64.wrap (b1 - b0) = b1 - b0 := IntWalk.i64_in _ (by omega)
    have k4 : IntKind.i64.wrap (b1 - b0 + 1) = b1 - b0 + 1 := IntWalk.i64_in _ (by omega)
    rw [hn, hm] at hnn
    obtain ⟨hn1, hn2⟩ := hnn
    have k5 : IntKind.i64.wrap ((a1 - a0 + 1) * (b1 - b0 + 1)) = (a1 - a0 + 1) * (b1 - b0 + 1) := IntWalk.i64_in _ (by omega)
    clear cE c0 c1 c2 c3 o1 o2
    by_cases h2 : 4096 < n * m
    · rw [if_pos h2]
      have hbig : 4096 < (a1 - a0 + 1) * (b1 - b0 + 1) := by
        rw [← hn, ← hm]
        exact_mod_cast h2
      clear hn hm h2
      go_enter Try.func37, Try.ntmps37
      go_wp2_with (first | (go_at_call 15; ((with_reducible refine ((CE.out _)).mono ?_)); rintro e w1 ⟨rfl, hg⟩; have hs := hg.1.size; (try simp at hs); have hz0 : w.heap.size < w1.heap.size := (by omega); have r0 : rec4 w1 (w.heap.size) (x) (y) (a) (b) := rec4.gr (by with_reducible first | assumption | exact rec4.drew (by assumption) | exact rec4.own (by assumption) | exact rec4.other (by assumption) _ _ _ _ (by omega) | exact rec4.own (rec4.other (by assumption) _ _ _ _ (by omega)) | exact rec4.other (rec4.own (by assumption)) _ _ _ _ (by omega) | exact rec4.new _ _ _ _ _ _ | exact rec4.drew (rec4.new _ _ _ _ _ _)) hg (by first | assumption | omega | (simp; done) | (simp; omega)); have q0 := r0; obtain ⟨⟨c00, c01, c02, c03⟩, f00, f01, f02, f03⟩ := q0; have G : Gr w w1 := (by first | exact Gr.trans (by assumption) hg | (obtain ⟨G1, G2⟩ := G; refine Gr.trans ?_ hg; constructor <;> go_grown; done) | (refine Gr.trans ?_ hg; constructor <;> go_grown; done))))
      refine wp_region_still_lit (by kernel_rfl) (by kernel_rfl) ?_
      repeat (first | still_step | still_call ((C0.out _).mono (fun _ _ h => ⟨h.1, h.2.symm⟩)) | still_call ((C1.out _).mono (fun _ _ h => ⟨h.1, h.2.symm⟩)) | still_call ((C2.out _).mono (fun _ _ h => ⟨h.1, h.2.symm⟩)) | still_call ((C3.out _).mono (fun _ _ h => ⟨h.1, h.2.symm⟩)))
      refine wpStill_nil ?_
      change Exit.then _ _ _ _ (World.drew w1)
      have G : Gr w (World.drew w1) := Gr.drewN G 1
      have r0 : rec4 (World.drew w1) w.heap.size x y a b := r0.drew
      clear c00 c01 c02 c03 f00 f01 f02 f03
      generalize World.drew w1 = W1 at *
      have hz0 : w.heap.size < W1.heap.size := by have := G.1.size; have := lt_of_rec r0; omega
      have q0 := r0
      obtain ⟨⟨c00, c01, c02, c03⟩, f00, f01, f02, f03⟩ := q0
      go_wp2
      refine wp_region_still_lit (by kernel_rfl) (by kernel_rfl) ?_
      repeat (first | still_step | still_call ((C0.out _).mono (fun _ _ h => ⟨h.1, h.2.symm⟩)) | still_call ((C1.out _).mono (fun _ _ h => ⟨h.1, h.2.symm⟩)) | still_call ((C2.out _).mono (fun _ _ h => ⟨h.1, h.2.symm⟩)) | still_call ((C3.out _).mono (fun _ _ h => ⟨h.1, h.2.symm⟩)))
      refine wpStill_nil ?_
      change Exit.then _ _ _ _ (World.drew W1)
      have G : Gr w (World.drew W1) := Gr.drewN G 1
      have r0 : rec4 (World.drew W1) w.heap.size x y a b := r0.drew
      clear c00 c01 c02 c03 f00 f01 f02 f03
      generalize World.drew W1 = W2 at *
      have hz0 : w.heap.size < W2.heap.size := by have := G.1.size; have := lt_of_rec r0; omega
      have q0 := r0
      obtain ⟨⟨c00, c01, c02, c03⟩, f00, f01, f02, f03⟩ := q0
      go_wp2
      go_ret
      exact ⟨_, rfl, G.1, World.ownsRow_nil _ _ _ _⟩
    · rw [if_neg h2]
      have hsm : (a1 - a0 + 1) * (b1 - b0 + 1) ≤ 4096 := by
        rw [← hn, ← hm]
        exact_mod_cast (Nat.le_of_not_lt h2)
      have HS := Lib.hid (show m * n ≤ 4096 by rw [Nat.mul_comm]; omega)
      have HC := Lib.hid (show (a1 - a0 + 1) * (b1 - b0 + 1) = ((n * m : Nat) : Int) by rw [Int.natCast_mul, hn, hm])
      have HM := Lib.hid (show n * m ≤ 4096 by omega)
      clear h2
      obtain ⟨i0, hi, hz0', hz1, hz2⟩ := info_parts info25
      go_enter Try.func37, Try.ntmps37
      go_wp2_with (first | (go_at_call 15; ((with_reducible refine ((CE.out _)).mono ?_)); rintro e w1 ⟨rfl, hg⟩; have hs := hg.1.size; (try simp at hs); have hz0 : w.heap.size < w1.heap.size := (by omega); have r0 : rec4 w1 (w.heap.size) (x) (y) (a) (b) := rec4.gr (by with_reducible first | assumption | exact rec4.drew (by assumption) | exact rec4.own (by assumption) | exact rec4.other (by assumption) _ _ _ _ (by omega) | exact rec4.own (rec4.other (by assumption) _ _ _ _ (by omega)) | exact rec4.other (rec4.own (by assumption)) _ _ _ _ (by omega) | exact rec4.new _ _ _ _ _ _ | exact rec4.drew (rec4.new _ _ _ _ _ _)) hg (by first | assumption | omega | (simp; done) | (simp; omega)); have q0 := r0; obtain ⟨⟨c00, c01, c02, c03⟩, f00, f01, f02, f03⟩ := q0; have G : Gr w w1 := (by first | exact Gr.trans (by assumption) hg | (obtain ⟨G1, G2⟩ := G; refine Gr.trans ?_ hg; constructor <;> go_grown; done) | (refine Gr.trans ?_ hg; constructor <;> go_grown; done))))
      refine wp_region_still_lit (by kernel_rfl) (by kernel_rfl) ?_
      repeat (first | still_step | still_call ((C0.out _).mono (fun _ _ h => ⟨h.1, h.2.symm⟩)) | still_call ((C1.out _).mono (fun _ _ h => ⟨h.1, h.2.symm⟩)) | still_call ((C2.out _).mono (fun _ _ h => ⟨h.1, h.2.symm⟩)) | still_call ((C3.out _).mono (fun _ _ h => ⟨h.1, h.2.symm⟩)))
      refine wpStill_nil ?_
      change Exit.then _ _ _ _ (World.drew w1)
      have G : Gr w (World.drew w1) := Gr.drewN G 1
      have r0 : rec4 (World.drew w1) w.heap.size x y a b := r0.drew
      clear c00 c01 c02 c03 f00 f01 f02 f03
      generalize World.drew w1 = W1 at *
      have hz0 : w.heap.size < W1.heap.size := by have := G.1.size; have := lt_of_rec r0; omega
      have q0 := r0
      obtain ⟨⟨c00, c01, c02, c03⟩, f00, f01, f02, f03⟩ := q0
      go_wp2
      refine wp_region_still_lit (by kernel_rfl) (by kernel_rfl) ?_
      repeat (first | still_step | still_call ((C0.out _).mono (fun _ _ h => ⟨h.1, h.2.symm⟩)) | still_call ((C1.out _).mono (fun _ _ h => ⟨h.1, h.2.symm⟩)) | still_call ((C2.out _).mono (fun _ _ h => ⟨h.1, h.2.symm⟩)) | still_call ((C3.out _).mono (fun _ _ h => ⟨h.1, h.2.symm⟩)))
      refine wpStill_nil ?_
      change Exit.then _ _ _ _ (World.drew W1)
      have G : Gr w (World.drew W1) := Gr.drewN G 1
      have r0 : rec4 (World.drew W1) w.heap.size x y a b := r0.drew
      clear c00 c01 c02 c03 f00 f01 f02 f03
      generalize World.drew W1 = W2 at *
      have hz0 : w.heap.size < W2.heap.size := by have := G.1.size; have := lt_of_rec r0; omega
      have q0 := r0
      obtain ⟨⟨c00, c01, c02, c03⟩, f00, f01, f02, f03⟩ := q0
      go_wp2_with (first | (at_make; refine wpList_make_own _ rfl _ _ 40 rfl w.heap.size 25 i0 (.agg #[.int .i64 0, .int .i64 0]) 2 Try.underlying40 hi hz0' hz1 .i64 .i64 _ (n * m) rfl rfl HC.out (by rw [hz2]; have := HM.out; omega) (by have := HM.out; unfold maxLen; omega) (by omega) ?_; intro w3 hown0 hgrow0; have hW : Below w.heap.size w w3 := Below.grown G.1 hgrow0 (by omega) (fun k hk => by cases hk)))
      have hnI : (n : Int) ≤ 131073 := by omega
      have hmI : (m : Int) ≤ 131073 := by omega
      clear e1 e2 e3 e4 k1 k2 k3 k4 k5 hsm hn1 hn2 hgrow0 p0 p1 G r0 c00 c01 c02 c03 f00 f01 f02 f03
      go_loopw [7, 47] (fun v i wr => ∃ j : Nat, j ≤ m ∧ i = .int .i64 (j : Int) ∧ wr.ownsRow w.heap.size 25 2 v (colT a0 b0 n j).length (cellsP (colT a0 b0 n j)) ∧ Below w.heap.size w wr) (fun _ i _ => (b1 - b0 + 1 - intOf i).toNat)
      case atStart => exact ⟨0, by omega, by simp, hown0, hW⟩
      case round =>
        clear hown0 hW
        obtain ⟨j, hj, rfl, hown, hnx⟩ := hrel
        by_cases hlt : j < m
        · have hd : (j : Int) < b1 - b0 + 1 := by omega
          go_wp2
          go_loopw [7, 51] (fun v i wi => ∃ k : Nat, k ≤ n ∧ i = .int .i64 (k : Int) ∧ wi.ownsRow w.heap.size 25 2 v (colT a0 b0 n j ++ rowT a0 (b0 + j) k).length (cellsP (colT a0 b0 n j ++ rowT a0 (b0 + j) k)) ∧ Below w.heap.size w wi) (fun _ i _ => (a1 - a0 + 1 - intOf i).toNat)
          case atStart => exact ⟨0, by omega, by simp, by (rw [show colT a0 b0 n j ++ rowT a0 (b0 + j) 0 = colT a0 b0 n j by simp [rowT]]; exact hown), hnx⟩
          case round =>
            clear hown hnx
            obtain ⟨k, hk, rfl, hown, hnx⟩ := hrel
            by_cases hkl : k < n
            · have hpl := part_len (x := a0) (y := b0) (z := b0 + j) HS.out hlt (i := k + 1) (by omega)
              have e1 : colT a0 b0 n j ++ rowT a0 (b0 + j) (k + 1) = (colT a0 b0 n j ++ rowT a0 (b0 + j) k) ++ [(a0 + (k : Int), b0 + (j : Int))] := by rw [rowT_succ, List.append_assoc]
              have e2 : (colT a0 b0 n j ++ rowT a0 (b0 + j) (k + 1)).length = (colT a0 b0 n j ++ rowT a0 (b0 + j) k).length + 1 := by rw [e1, List.length_append]; rfl
              have e3 : cellsP (colT a0 b0 n j ++ rowT a0 (b0 + j) (k + 1)) = cellsP (colT a0 b0 n j ++ rowT a0 (b0 + j) k) ++ [.int .i64 (a0 + (k : Int)), .int .i64 (b0 + (j : Int))] := by rw [e1, cellsP_append]; rfl
              clear e1
              generalize hL' : colT a0 b0 n j ++ rowT a0 (b0 + j) (k + 1) = L' at *
              have HL' := Lib.hid hL'
              clear hL'
              generalize colT a0 b0 n j ++ rowT a0 (b0 + j) k = L at *
              have E2 := Lib.hid e2
              have E3 := Lib.hid e3
              have PL := Lib.hid (show L.length + 1 ≤ 4096 by omega)
              clear e2 e3 hpl
              have r1 : IntKind.i64.wrap ((k : Int) + 1) = (k : Int) + 1 := IntWalk.i64_in _ (by omega)
              have r2 : IntKind.i64.wrap (a0 + (k : Int)) = a0 + (k : Int) := IntWalk.i64_in _ (by omega)
              have r3 : IntKind.i64.wrap (b0 + (j : Int)) = b0 + (j : Int) := IntWalk.i64_in _ (by omega)
              go_wp2_with (first | (at_builtin; refine wpList_append_own _ rfl _ _ 40 rfl w.heap.size 25 i0 (.agg #[.int .i64 0, .int .i64 0]) 2 16 Try.underlying40 hi hz0' hz1 hz2 rfl (by decide) _ _ _ rfl (hown.alloc _) ⟨wr.heap.size, 0, none⟩ 1 1 [.int .i64 (a0 + k), .int .i64 (b0 + j)] rfl rfl ?c1 ?c2 ?c3 ?c4 ?c5 ?_))
              case c1 =>
                intro j u hj
                match j, hj with
                | 0, hj => simp at hj; subst hj; simp [Addr.add]
                | 1, hj => simp at hj; subst hj; simp [Addr.add]
              case c2 => intro u hu; simp at hu; rcases hu with rfl | rfl <;> rfl
              case c3 => have := PL.out; unfold maxLen; omega
              case c4 => have := PL.out; omega
              case c5 => have := hnx.size; simp; omega
              intro v' w4 hown' hgrow _
              have hnx3 : Below w.heap.size w w4 := rel_append hnx hown (Gr.refl _) hnx.size hgrow
              rw [← E2.out, ← E3.out] at hown'
              clear hgrow hown hnx
              go_wp2
              go_roundw
              case rel => exact ⟨k + 1, by omega, by simp, by rw [HL'.out]; exact hown', hnx3⟩
              case measure => simp [intOf]; omega
            · obtain rfl : k = n := by omega
              have r1 : IntKind.i64.wrap ((j : Int) + 1) = (j : Int) + 1 := IntWalk.i64_in _ (by omega)
              go_wp2
              go_roundw
              case rel => exact ⟨j + 1, by omega, by simp, by rw [colT_succ]; exact hown, hnx⟩
              case measure => simp [intOf]; omega
        · obtain rfl : j = m := by omega
          go_wp2
          go_ret
          exact ⟨_, rfl, hnx, hown⟩
  · rw [h1] at cE
    have E : Rc.tiles ⟨x, y, a, b⟩ = [] := by unfold Rc.tiles; rw [h1]; rfl
    rw [E]
    have CE := Lib.hid cE
    clear cE E
    go_enter Try.func37, Try.ntmps37
    go_wp2_with (first | (go_at_call 15; ((with_reducible refine ((CE.out _)).mono ?_)); rintro e w1 ⟨rfl, hg⟩; have hs := hg.1.size; (try simp at hs); have hz0 : w.heap.size < w1.heap.size := (by omega); have r0 : rec4 w1 (w.heap.size) (x) (y) (a) (b) := rec4.gr (by with_reducible first | assumption | exact rec4.drew (by assumption) | exact rec4.own (by assumption) | exact rec4.other (by assumption) _ _ _ _ (by omega) | exact rec4.own (rec4.other (by assumption) _ _ _ _ (by omega)) | exact rec4.other (rec4.own (by assumption)) _ _ _ _ (by omega) | exact rec4.new _ _ _ _ _ _ | exact rec4.drew (rec4.new _ _ _ _ _ _)) hg (by first | assumption | omega | (simp; done) | (simp; omega)); have q0 := r0; obtain ⟨⟨c00, c01, c02, c03⟩, f00, f01, f02, f03⟩ := q0; have G : Gr w w1 := (by first | exact Gr.trans (by assumption) hg | (obtain ⟨G1, G2⟩ := G; refine Gr.trans ?_ hg; constructor <;> go_grown; done) | (refine Gr.trans ?_ hg; constructor <;> go_grown; done))))
    go_ret
    exact ⟨_, rfl, G.1, World.ownsRow_nil _ _ _ _⟩

end Go.Proofs.Ytbkhfebopmeanaa
