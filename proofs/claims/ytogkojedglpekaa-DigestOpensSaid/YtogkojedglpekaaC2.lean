import Derived.Test.YtogkojedglpekaaProg
import Derived.WalkKit
import Derived.WalkLawsBesides
import Derived.Outline
import Derived.Lib.Walk
import Derived.Deep.QuietTactic
import Derived.BigQuiet
import Derived.RowKit3
import Derived.Deep.LoopGhost
import Derived.Laws.Rows
import Derived.Laws.Tables
import Derived.Laws.CopyOwn
import Derived.Lib.Hide
import Derived.Handy
import Derived.Deep.Onto
import Derived.Test.YtogkojedglpekaaA1
import Derived.Test.YtogkojedglpekaaA2
import Derived.Test.YtogkojedglpekaaB2
import Derived.Test.YtogkojedglpekaaC1
namespace Go.Proofs.Ytogkojedglpekaa
open Go.RowKit
set_option maxHeartbeats 400000
set_option linter.unusedVariables false

theorem rdr_gr {W W' : World} {v : Value} {s : Rd} (h : rdr W v s) (hb : Below W.heap.size W W') : rdr W' v s := by
  rcases h with h | ⟨p, e, mk, rfl, ⟨c0, c1, c2⟩, ⟨z0, z1⟩, hp, h2, h3⟩
  · exact Or.inl h
  · exact Or.inr ⟨p, e, mk, rfl, ⟨(hb.cell (p := ⟨p, 0, none⟩) hp).trans c0, (hb.cell (p := ⟨p, 1, none⟩) hp).trans c1, (hb.cell (p := ⟨p, 2, none⟩) hp).trans c2⟩, ⟨(hb.frozen (p := ⟨p, 0, none⟩) hp).trans z0, (hb.frozen (p := ⟨p, 1, none⟩) hp).trans z1⟩, Nat.lt_of_lt_of_le hp hb.size, h2, h3⟩
theorem put_grown (W : World) (p o : Nat) (x : Value) : W.grownBy (W.setCell ⟨p, o, none⟩ x) (some p) :=
  ⟨rfl, rfl, rfl, by simp [World.setCell], fun k hk hne => Below.heap_setCell _ _ _ _ (fun e => hne (by rw [e]))⟩
theorem grown_same (W : World) (r : Option Nat) : W.grownBy W r := ⟨rfl, rfl, rfl, Nat.le_refl _, fun _ _ _ => rfl⟩
set_option maxHeartbeats 1000000 in
theorem e34 (v : Value) (s : Rd) (f : Int) (w : World) (h : rdr w v s) : Calls Try.prog 34 #[v, .int .i64 f] w fun e w' => e = .returned undef ∧ rdr w' v (failR s f) ∧ w.grownBy w' (pblk v) := by
  have C := Lib.hid (e28 v s w h)
  have H := Lib.hid h
  by_cases h0 : s.2 = 0
  · rcases h with ⟨rfl, h2⟩ | ⟨p, e, mk, rfl, ⟨c0, c1, c2⟩, ⟨z0, z1⟩, hp, h2, hl⟩
    · rw [h2] at h0
      cases h0
    · have h00 := h0
      rw [h2] at h00
      cases mk
      · cases h00
      · rw [h0] at C
        have hs0 := Lib.hid h0
        clear h2 h0
        go_enter Try.func34, Try.ntmps34
        go_wp2_with (go_at_call 28; fail)
        (with_reducible refine C.out.mono ?_)
        rintro e1 w1 ⟨rfl, rfl⟩
        go_wp2
        go_end0
        refine ⟨rfl, Or.inr ⟨p, f, true, rfl, ⟨?_, ?_, ?_⟩, ⟨?_, ?_⟩, ?_, ?_, ?_⟩, put_grown w p 1 _⟩
        · rw [failR_fst]
          simp [go_sem, *]
        · simp [go_sem, *]
        · simp [go_sem, *]
        · simp [go_sem, *]
        · simp [go_sem, *]
        · simp [World.setCell]; omega
        · unfold failR
          rw [if_pos hs0.out]
          rfl
        · rw [failR_fst]
          exact hl
  · have hF : failR s f = s := by unfold failR; rw [if_neg h0]
    rw [hF]
    have h1 : (s.2 == 0) = false := by simp [h0]
    generalize hx : s.2 = x at C h1
    clear h h0 hF hx
    go_enter Try.func34, Try.ntmps34
    go_wp2_with (go_at_call 28; fail)
    (with_reducible refine C.out.mono ?_)
    rintro e1 w1 ⟨rfl, rfl⟩
    go_wp2
    go_end0
    exact ⟨rfl, H.out, grown_same _ _⟩

end Go.Proofs.Ytogkojedglpekaa
