import Derived.Test.YtmekcgbljpeglaaDoorProg
import Derived.WalkKit
import Derived.WalkLawsBesides
import Derived.Outline
import Derived.Lib.Walk
import Derived.Deep.QuietTactic
import Derived.BigQuiet
import Derived.RowKit3
import Derived.Deep.LoopGhost
import Derived.Laws.Rows
import Derived.Laws.Tables
import Derived.Laws.CopyOwn
import Derived.Lib.Hide
import Derived.Handy
import Derived.Deep.Onto
import Derived.Deep.RegionWith
import Derived.Lib.IfaceEq
import Derived.Lib.AtoiErrMem
import Derived.BigCall
import Derived.BigGuard
import Derived.Test.YtmekcgbljpeglaaDoorA1
import Derived.Test.YtmekcgbljpeglaaDoorU1
import Derived.Test.YtmekcgbljpeglaaDoorU2
namespace Go.Proofs.YtmekcgbljpeglaaDoor
open Go.RowKit
set_option maxHeartbeats 400000
set_option linter.unusedVariables false

/-- what the variable ErrSyntax holds: any error at all. -/
def Err2 (w : World) : Prop := ∃ ev, w.cell? ⟨2, 0, none⟩ = some ev ∧ (ev = .nilIface ∨ ∃ te pe, ev = .iface te pe)
theorem Err2.below {w w' : World} {n : Nat} (h : Err2 w) (hb : Below n w w') (hn : 2 < n) : Err2 w' := by
  obtain ⟨ev, h1, h2⟩ := h
  exact ⟨ev, (hb.cell (p := ⟨2, 0, none⟩) hn).trans h1, h2⟩
theorem Err2.lt {w : World} (h : Err2 w) : 2 < w.heap.size := by
  obtain ⟨ev, h1, h2⟩ := h
  exact Lib.lt_of_cell h1
set_option maxHeartbeats 6400000 in
set_option maxRecDepth 100000 in
theorem k66 (fn s : ByteArray) (w : World) (hlim : s.size ≤ 281474976710656) (hE : Err2 w) :
    Calls Tryd.prog 66 #[.string fn, .string s] w fun e w' => ∃ N, e = .returned (.pointer (some ⟨N, 0, none⟩)) ∧ Below w.heap.size w w' := by
  have hG := hE.lt
  obtain ⟨ev, hv, hev⟩ := hE
  rcases hev with rfl | ⟨te, pe, rfl⟩
  all_goals (
    have hvd : w.drew.cell? ⟨2, 0, none⟩ = some _ := hv
    go_enter Tryd.func66, Tryd.ntmps66
    go_wp2_with fail
    go_region_with (
        go_at_call 71
        refine (k71 s _ hlim).mono ?_
        rintro e w2 ⟨rfl, hbel⟩
        have hv2 : w2.cell? ⟨2, 0, none⟩ = some _ := (hbel.cell (show (⟨2, 0, none⟩ : Addr).block < w.drew.heap.size from hG)).trans hvd)
    all_goals (
      go_wp2
      go_ret
      have hs2 : w.heap.size ≤ w2.heap.size := hbel.size
      exact ⟨_, rfl, ((Below.drew (Below.refl _ w)).trans hbel).alloc hs2 _⟩))
set_option maxHeartbeats 4000000 in
set_option maxRecDepth 100000 in
theorem k61 (fn s : ByteArray) (base bits : Int) (w : World) (hlim : s.size ≤ 281474976710656) (hE : Err2 w) :
    Calls Tryd.prog 61 #[.string fn, .string s, .int .i64 base, .int .i64 bits, .iface 62 (.int .i64 2)] w fun e w' => ∃ N, e = .returned (.iface 65 (.pointer (some ⟨N, 0, none⟩))) ∧ Below w.heap.size w w' := by
  have heq : ∀ W, (binOp .eql 47 (.iface 62 (.int .i64 2)) (.iface 62 (.int .i64 2))).run Tryd.prog W = .ok (.bool true) W := fun W => Lib.run_eql_iface_int W 2 2 Tryd.underlying47 (by kernel_rfl) Tryd.underlying62
  go_enter Tryd.func61, Tryd.ntmps61
  go_wp2_with (go_at_call 66; refine (k66 fn s _ hlim ?_).mono ?_)
  · exact hE
  rintro e w2 ⟨N, rfl, h3⟩
  go_wp2
  go_ret
  exact ⟨N, rfl, h3⟩
theorem k50_ok (t : ByteArray) (n : Nat) (hne : t.size ≠ 0) (hmax : t.size ≤ 8) (h : hexs 0 t.data.toList = some n) (w : World) :
    Calls Tryd.prog 50 #[.string t, .int .i64 16, .int .i64 32] w fun e w' => e = .returned (.tuple #[.int .u64 (n : Int), .nilIface]) ∧ Below w.heap.size w w' := by
  have c1 : ∀ w, Calls Tryd.prog 60 #[.string t, .int .i64 16, .int .i64 32] w fun e w' => e = .returned (.tuple #[.int .u64 (n : Int), .nilIface]) ∧ Below w.heap.size w w' := fun w => (k60 t hne hmax w).mono fun e w' ⟨h1, h2⟩ => ⟨by rw [h1, h]; rfl, by rw [h2]; exact Lib.bytesWorld_below _ _ _⟩
  have C1 := Lib.hid c1
  clear c1 h hne hmax
  go_enter Tryd.func50, Tryd.ntmps50
  go_wp2_with (go_at_call 60; (with_reducible refine (C1.out _).mono ?_); rintro e w1 ⟨rfl, hg⟩)
  go_wp2
  go_ret2
  exact ⟨rfl, hg⟩
set_option maxRecDepth 100000 in
theorem k50_bad (t : ByteArray) (h0 : t.size = 0 ∨ (t.size ≠ 0 ∧ t.size ≤ 8 ∧ hexs 0 t.data.toList = none)) (w : World) (hE : Err2 w) :
    Calls Tryd.prog 50 #[.string t, .int .i64 16, .int .i64 32] w fun e w' => ∃ N, e = .returned (.tuple #[.int .u64 0, .iface 65 (.pointer (some ⟨N, 0, none⟩))]) ∧ Below w.heap.size w w' := by
  have hl : t.size ≤ 281474976710656 := by rcases h0 with h | ⟨_, h, _⟩ <;> omega
  have c1 : ∀ w, Calls Tryd.prog 60 #[.string t, .int .i64 16, .int .i64 32] w fun e w' => e = .returned (.tuple #[.int .u64 0, .iface 62 (.int .i64 2)]) ∧ Below w.heap.size w w' := fun w => by
    rcases h0 with h | ⟨h1, h2, h3⟩
    · exact (k60_empty t h w).mono fun e w' ⟨h1, h2⟩ => ⟨h1, by rw [h2]; exact Below.refl _ _⟩
    · exact (k60 t h1 h2 w).mono fun e w' ⟨g1, g2⟩ => ⟨by rw [g1, h3]; rfl, by rw [g2]; exact Lib.bytesWorld_below _ _ _⟩
  have C1 := Lib.hid c1
  have C2 := Lib.hid (fun fn w hE => k61 fn t 16 32 w hl hE)
  have HE := Lib.hid hE
  have hG := hE.lt
  clear c1 h0 hl hE
  go_enter Tryd.func50, Tryd.ntmps50
  go_wp2_with (go_at_call 60; fail)
  (with_reducible refine (C1.out _).mono ?_)
  rintro e w1 ⟨rfl, hg⟩
  go_wp2_with (go_at_call 61; fail)
  (with_reducible refine (C2.out _ _ (HE.out.below hg hG)).mono ?_)
  rintro e w2 ⟨N, rfl, hg2⟩
  go_wp2
  go_ret2
  exact ⟨N, rfl, bel_trans hg hg2⟩

end Go.Proofs.YtmekcgbljpeglaaDoor
