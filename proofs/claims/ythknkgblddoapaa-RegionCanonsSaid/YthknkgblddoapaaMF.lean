import Derived.Test.YthknkgblddoapaaProg
import Derived.WalkKit
import Derived.WalkLawsBesides
import Derived.Outline
import Derived.Lib.Walk
import Derived.Deep.QuietTactic
import Derived.BigQuiet
import Derived.RowKit3
import Derived.Deep.LoopGhost
import Derived.Great.Walk
import Derived.Great.BuildSlice
import Derived.Laws.Rows
import Derived.Laws.Tables
import Derived.Laws.CopyOwn
import Derived.Lib.Hide
import Derived.Handy
import Derived.Deep.Onto
import Derived.RegionTactic
import Derived.ChangeAlike
import Derived.Test.YthknkgblddoapaaMA
import Derived.Test.YthknkgblddoapaaMB
import Derived.Test.YthknkgblddoapaaMC
import Derived.Test.YthknkgblddoapaaMD
import Derived.Test.YthknkgblddoapaaME
namespace Go.Proofs.Ythknkgblddoapaa

section
open Go.RowKit
set_option maxHeartbeats 400000
set_option linter.unusedVariables false

theorem own_set {W : World} {base : Nat} {t : TypeId} {size : Nat} {v : Value} {n : Nat} {xs : List Value} (h : W.ownsRow base t size v n xs) (p : Addr) (hp : p.block < base) (x : Value) : (W.setCell p x).ownsRow base t size v n xs := by
  obtain ⟨hl, hc⟩ := h
  refine ⟨hl, ?_⟩
  rcases hc with hc | ⟨g, cap, cur, rfl, hb, hg, h1, h2, h3, h4⟩
  · exact Or.inl hc
  · exact Or.inr ⟨g, cap, cur, rfl, hb, by rw [heap_setCell_other _ _ _ _ (by omega)]; exact hg, h1, h2, h3, h4⟩
/-- whether the j-th side is the last one of its column. -/
def lastAt (F : List Sd) (j : Nat) : Bool := lastOf (F.getD j Sd.zero) (F.drop (j + 1))
theorem scan_drop (keep : Bool → Bool → Bool) (F : List Sd) (j : Nat) (hj : j < F.length) (st : Sc) : scan keep (F.drop j) st = scan keep (F.drop (j + 1)) (Sc.step keep (F.getD j Sd.zero) (lastAt F j) st) := by
  have e : F.getD j Sd.zero = F[j] := by rw [List.getD_eq_getElem?_getD, List.getElem?_eq_getElem hj]; rfl
  unfold lastAt
  rw [e, List.drop_eq_getElem_cons hj]
  rfl
theorem last_end (F : List Sd) (j : Nat) (hj : F.length ≤ j + 1) : lastAt F j = true := by
  unfold lastAt
  rw [List.drop_of_length_le hj]
  rfl
theorem last_mid (F : List Sd) (j : Nat) (hj : j + 1 < F.length) : lastAt F j = !decide ((F.getD (j + 1) Sd.zero).x = (F.getD j Sd.zero).x) := by
  have e : F.getD (j + 1) Sd.zero = F[j + 1] := by rw [List.getD_eq_getElem?_getD, List.getElem?_eq_getElem hj]; rfl
  unfold lastAt
  rw [e, List.drop_eq_getElem_cons hj]
  rfl
theorem step_more0 (keep : Bool → Bool → Bool) (x t b s : Int) (sc : Sc) : Sc.step keep ⟨0, x, t, b, s⟩ false sc = ⟨sc.c0 + s, sc.c1, sc.start, sc.op, sc.band⟩ := by simp [Sc.step]
theorem step_more1 (keep : Bool → Bool → Bool) (x t b s : Int) (sc : Sc) : Sc.step keep ⟨1, x, t, b, s⟩ false sc = ⟨sc.c0, sc.c1 + s, sc.start, sc.op, sc.band⟩ := by simp [Sc.step]
theorem step_last0 (keep : Bool → Bool → Bool) (x t b s : Int) (sc : Sc) (r : Bool) (hr : keep (decide (0 < sc.c0 + s)) (decide (0 < sc.c1)) = r) : Sc.step keep ⟨0, x, t, b, s⟩ true sc = ⟨sc.c0 + s, sc.c1, if r && !sc.op then x else sc.start, r, if !r && sc.op then sc.band ++ [(sc.start, x - sc.start)] else sc.band⟩ := by simp [Sc.step, hr]
theorem step_last1 (keep : Bool → Bool → Bool) (x t b s : Int) (sc : Sc) (r : Bool) (hr : keep (decide (0 < sc.c0)) (decide (0 < sc.c1 + s)) = r) : Sc.step keep ⟨1, x, t, b, s⟩ true sc = ⟨sc.c0, sc.c1 + s, if r && !sc.op then x else sc.start, r, if !r && sc.op then sc.band ++ [(sc.start, x - sc.start)] else sc.band⟩ := by simp [Sc.step, hr]
def SdOk (s : Sd) : Prop := (s.n = 0 ∨ s.n = 1) ∧ (-1048576 ≤ s.x ∧ s.x ≤ 1048576) ∧ (s.s = 1 ∨ s.s = -1)
theorem getS_mem {L : List Sd} {k : Nat} (h : k < L.length) : L.getD k Sd.zero ∈ L := by
  rw [List.getD_eq_getElem?_getD, List.getElem?_eq_getElem h]
  exact List.getElem_mem h
/-- the array of the two counts. -/
def cov2 (W : World) (C : Nat) (a b : Int) : Prop := (W.cell? ⟨C, 0, none⟩ = some (.int .i64 a) ∧ W.cell? ⟨C, 1, none⟩ = some (.int .i64 b)) ∧ W.frozen? ⟨C, 0, none⟩ = false ∧ W.frozen? ⟨C, 1, none⟩ = false ∧ C < W.heap.size
theorem below_two {B : Nat} {a W : World} (h : Below B a W) {p : Addr} (hp : B ≤ p.block) (hB : B ≤ W.heap.size) (x : Int) (o : Obj) : Below B a ((W.setCell p (.int .i64 x)).alloc o) := by
  refine Below.alloc (Below.setCell h hp _) ?_ o
  simpa using hB
theorem below_drewN {B : Nat} {a W : World} (h : Below B a W) (q : Nat) : Below B a (W.drewN q) := h.trans ⟨rfl, rfl, rfl, Nat.le_refl _, fun _ _ => rfl⟩
theorem cov2_gr {W W' : World} {C : Nat} {a b : Int} (h : cov2 W C a b) {n : Nat} (hb : Below n W W') (hn : C < n) : cov2 W' C a b := by
  obtain ⟨⟨h0, h1⟩, h2, h3, h4⟩ := h
  exact ⟨⟨(hb.cell (p := ⟨C, 0, none⟩) hn).trans h0, (hb.cell (p := ⟨C, 1, none⟩) hn).trans h1⟩, (hb.frozen (p := ⟨C, 0, none⟩) hn).trans h2, (hb.frozen (p := ⟨C, 1, none⟩) hn).trans h3, Nat.lt_of_lt_of_le h4 hb.size⟩
theorem app_state {wr X w3 : World} {C : Nat} {a b : Int} {v : Value} {t : TypeId} {size n : Nat} {xs : List Value} (hX : Below C wr X) (hcv : cov2 X C a b) (hown : X.ownsRow (C + 1) t size v n xs) (hg : X.grownBy w3 v.ownBlock) : Below C wr w3 ∧ cov2 w3 C a b := by
  have hz := hcv.2.2.2
  have b1 : Below (C + 1) X w3 := (Below.refl _ _).grown hg hz (fun g e => (hown.lt g e).1)
  exact ⟨hX.trans (b1.mono (Nat.le_succ C)), cov2_gr hcv b1 (Nat.lt_succ_self C)⟩
theorem app_state2 {wr X0 X w3 : World} {C : Nat} {a b : Int} {v : Value} {t : TypeId} {size n : Nat} {xs : List Value} (hX : Below C wr X0) (hcv : cov2 X0 C a b) (hown : X0.ownsRow (C + 1) t size v n xs) (hg : X.grownBy w3 v.ownBlock) (hXX : Below X0.heap.size X0 X) : Below C wr w3 ∧ cov2 w3 C a b := by
  have hz := hcv.2.2.2
  exact app_state (hX.trans (hXX.mono (Nat.le_of_lt hz))) (cov2_gr hcv hXX hz) (ownsRow_below hown hXX) hg
theorem band_snoc {W : World} {B : Nat} {v : Value} {top h x a : Int} {R : List (Int × Int)} (hw : W.ownsRow B 33 4 v (R.length + 1) (cellsR (Band.flat ⟨top, h, R⟩) ++ [.int .i64 x, .int .i64 top, .int .i64 a, .int .i64 h])) :
    W.ownsRow B 33 4 v (R ++ [(x, a)]).length (cellsR (Band.flat ⟨top, h, R ++ [(x, a)]⟩)) := by
  have e := flat_snoc ⟨top, h, R⟩ x a
  simp only at e
  rw [e, cellsR_append, List.length_append]
  exact hw

theorem cov2_set0 {W : World} {C : Nat} {a b : Int} (h : cov2 W C a b) (x : Int) (o : Obj) : cov2 ((W.setCell ⟨C, 0, none⟩ (.int .i64 x)).alloc o) C x b := by
  obtain ⟨⟨h0, h1⟩, h2, h3, h4⟩ := h
  refine ⟨⟨?_, ?_⟩, ?_, ?_, ?_⟩ <;> simp [go_sem, *]
theorem cov2_set1 {W : World} {C : Nat} {a b : Int} (h : cov2 W C a b) (x : Int) (o : Obj) : cov2 ((W.setCell ⟨C, 1, none⟩ (.int .i64 x)).alloc o) C a x := by
  obtain ⟨⟨h0, h1⟩, h2, h3, h4⟩ := h
  refine ⟨⟨?_, ?_⟩, ?_, ?_, ?_⟩ <;> simp [go_sem, *]
theorem on_hit (L : List Sd) (y : Int) (k : Nat) (hk : k < L.length) (h : Sd.on y (L.getD k Sd.zero) = true) : (L.take (k + 1)).filter (Sd.on y) = (L.take k).filter (Sd.on y) ++ [L.getD k Sd.zero] := by
  have e : L.getD k Sd.zero = L[k] := by rw [List.getD_eq_getElem?_getD, List.getElem?_eq_getElem hk]; rfl
  rw [e] at h ⊢
  rw [List.take_succ_eq_append_getElem hk, List.filter_append, List.filter_cons_of_pos h, List.filter_nil]
theorem on_miss (L : List Sd) (y : Int) (k : Nat) (hk : k < L.length) (h : Sd.on y (L.getD k Sd.zero) = false) : (L.take (k + 1)).filter (Sd.on y) = (L.take k).filter (Sd.on y) := by
  have e : L.getD k Sd.zero = L[k] := by rw [List.getD_eq_getElem?_getD, List.getElem?_eq_getElem hk]; rfl
  rw [e] at h
  rw [List.take_succ_eq_append_getElem hk, List.filter_append, List.filter_cons_of_neg (by rw [h]; simp), List.filter_nil, List.append_nil]
set_option maxHeartbeats 4000000 in
set_option maxRecDepth 100000 in
theorem p72 (v : Value) (S : List Sd) (top bot : Int) (kf : Nat) (keep : Bool → Bool → Bool) (w : World) (h : argS w w.heap.size v S) (hl : S.length ≤ 1048576) (hS : ∀ s ∈ S, SdOk s) (ht : -1048576 ≤ top ∧ top ≤ 1048576) (hb : -1048576 ≤ bot ∧ bot ≤ 1048576)
    (ek : ∀ args w, (callFunc kf args).run Try.prog w = .ok (.enter kf args) w) (hk : ∀ a b W, Calls Try.prog kf #[.bool a, .bool b] W fun e w' => e = .returned (.bool (keep a b)) ∧ W = w') :
    Calls Try.prog 72 #[v, .int .i64 top, .int .i64 bot, .func (.func kf) #[] #[]] w fun e w' => ∃ u, e = .returned u ∧ Below w.heap.size w w' ∧ w'.ownsRow w.heap.size 33 4 u (scan keep (S.filter (Sd.on top)) sc0).band.length (cellsR (Band.flat ⟨top, bot - top, (scan keep (S.filter (Sd.on top)) sc0).band⟩)) := by
  obtain ⟨ao, cap, rfl, h⟩ := h
  obtain ⟨n, hn⟩ : ∃ n, S.length = n := ⟨_, rfl⟩
  rw [hn] at h hl
  have HN := Lib.hid hn
  rw [hn]
  clear hn
  have H := Lib.hid h
  have HK := Lib.hid hk
  have HS := Lib.hid hS
  obtain ⟨ht1, ht2⟩ := ht
  obtain ⟨hb1, hb2⟩ := hb
  clear h hk hS
  obtain ⟨i0, hi, hz0', hzs, hzb⟩ := info_parts info63
  go_enter Try.func72, Try.ntmps72
  go_wp2
  go_loopw [9, 21] (fun s i wr => ∃ k : Nat, k ≤ n ∧ i = .int .i64 (k : Int) ∧ wr.ownsRow w.heap.size 63 5 s ((S.take k).filter (Sd.on top)).length (cellsS ((S.take k).filter (Sd.on top))) ∧ Below w.heap.size w wr) (fun _ i _ => (n - (intOf i).toNat))
  case atStart => exact ⟨0, by omega, rfl, World.ownsRow_nil _ _ _ _, Below.refl _ _⟩
  case round =>
    obtain ⟨k, hk, rfl, hown, hnx⟩ := hrel
    by_cases hlt : k < n
    · obtain ⟨g, o, rfl, hblk, hc⟩ := H.out (by omega)
      obtain ⟨f0, f1, f2, f3, f4⟩ := hc k (by omega)
      replace f0 := (hnx.cell (p := ⟨g, o + k * 5, none⟩) hblk).trans f0
      replace f1 := (hnx.cell (p := ⟨g, o + k * 5 + 1, none⟩) hblk).trans f1
      replace f2 := (hnx.cell (p := ⟨g, o + k * 5 + 2, none⟩) hblk).trans f2
      replace f3 := (hnx.cell (p := ⟨g, o + k * 5 + 3, none⟩) hblk).trans f3
      replace f4 := (hnx.cell (p := ⟨g, o + k * 5 + 4, none⟩) hblk).trans f4
      have hh := Lib.hid (on_hit S top k (by rw [HN.out]; omega))
      have hm := Lib.hid (on_miss S top k (by rw [HN.out]; omega))
      have kl : ((S.take k).filter (Sd.on top)).length ≤ k := Nat.le_trans (List.length_filter_le _ _) (List.length_take_le _ _)
      clear hc
      generalize S.getD k Sd.zero = Z at *
      have kk : IntKind.i64.wrap ((k : Int) + 1) = (k : Int) + 1 := IntWalk.i64_in _ (by omega)
      rcases (show (Z.t ≤ top ∧ top < Z.b) ∨ (¬ Z.t ≤ top) ∨ (Z.t ≤ top ∧ ¬ top < Z.b) by omega) with ⟨q1, q2⟩ | q1 | ⟨q1, q2⟩
      · have e1 := hh.out (by unfold Sd.on; simp; omega)
        have e2 : ((S.take (k + 1)).filter (Sd.on top)).length = ((S.take k).filter (Sd.on top)).length + 1 := by rw [e1]; simp
        have e3 : cellsS ((S.take (k + 1)).filter (Sd.on top)) = cellsS ((S.take k).filter (Sd.on top)) ++ [.int .i64 Z.n, .int .i64 Z.x, .int .i64 Z.t, .int .i64 Z.b, .int .i64 Z.s] := by rw [e1, cellsS_append]; rfl
        have E2 := Lib.hid e2
        have E3 := Lib.hid e3
        clear hh hm e1 e2 e3
        go_wp2_with (at_builtin; refine wpList_append_own _ rfl _ _ 59 rfl w.heap.size 63 i0 (.agg #[.int .i64 0, .int .i64 0, .int .i64 0, .int .i64 0, .int .i64 0]) 5 40 Try.underlying59 hi hz0' hzs hzb rfl (by decide) _ _ _ rfl ((hown.alloc _).alloc _) ⟨wr.heap.size + 1, 0, none⟩ 1 1 [.int .i64 Z.n, .int .i64 Z.x, .int .i64 Z.t, .int .i64 Z.b, .int .i64 Z.s] rfl rfl ?c1 ?c2 ?c3 ?c4 ?c5 ?_)
        case c1 =>
          intro j u hj
          match j, hj with
          | 0, hj => simp at hj; subst hj; simp [Addr.add]
          | 1, hj => simp at hj; subst hj; simp [Addr.add]
          | 2, hj => simp at hj; subst hj; simp [Addr.add]
          | 3, hj => simp at hj; subst hj; simp [Addr.add]
          | 4, hj => simp at hj; subst hj; simp [Addr.add]
        case c2 => intro u hu; simp at hu; rcases hu with rfl | rfl | rfl | rfl | rfl <;> rfl
        case c3 => unfold maxLen; omega
        case c4 => omega
        case c5 => have := hnx.size; simp; omega
        intro v' w3 hown' hgrow _
        have hnx3 : Below w.heap.size w w3 := rel_append (w2 := wr.alloc (.cells #[.int .i64 Z.n, .int .i64 Z.x, .int .i64 Z.t, .int .i64 Z.b, .int .i64 Z.s] 63)) hnx hown (by constructor <;> go_grown) hnx.size hgrow
        rw [← E2.out, ← E3.out] at hown'
        clear hgrow hown hnx f0 f1 f2 f3 f4
        go_wp2
        go_roundw
        case rel => exact ⟨k + 1, by omega, by simp, hown', hnx3⟩
        case measure => simp [intOf]; omega
      · have HM := Lib.hid (hm.out (by unfold Sd.on; simp; omega))
        have hd := decide_eq_false (p := Z.t ≤ top) (by assumption)
        clear hh hm
        go_wp2
        go_roundw
        case rel => exact ⟨k + 1, by omega, by simp, by rw [HM.out]; exact ownsRow_below hown ((Below.refl _ _).alloc (Nat.le_refl _) _), hnx.alloc hnx.size _⟩
        case measure => simp [intOf]; omega
      · have HM := Lib.hid (hm.out (by unfold Sd.on; simp; omega))
        have hd := decide_eq_false (p := top < Z.b) (by assumption)
        clear hh hm
        go_wp2
        go_roundw
        case rel => exact ⟨k + 1, by omega, by simp, by rw [HM.out]; exact ownsRow_below hown ((Below.refl _ _).alloc (Nat.le_refl _) _), hnx.alloc hnx.size _⟩
        case measure => simp [intOf]; omega
    · obtain rfl : k = n := by omega
      have hend : S.take k = S := by rw [← HN.out]; exact List.take_length
      rw [hend] at hown
      clear hend
      obtain ⟨F, hF⟩ : ∃ F, S.filter (Sd.on top) = F := ⟨_, rfl⟩
      rw [hF] at hown
      have HF := Lib.hid hF
      clear hF
      have hFl : F.length ≤ 1048576 := by rw [← HF.out]; exact Nat.le_trans (List.length_filter_le _ _) (by rw [HN.out]; exact hl)
      have hargF := argS_own hown
      obtain ⟨ao', cap', rfl, hao', _, _⟩ := row_formS hown
      obtain ⟨m, hm⟩ : ∃ m, F.length = m := ⟨_, rfl⟩
      rw [hm] at hao' hown hFl
      clear HN hi hz0' hzs hzb hown
      have HM := Lib.hid hm
      have hFo : ∀ t ∈ F, SdOk t := fun t ht => HS.out t (List.mem_filter.1 (by rw [HF.out]; exact ht)).1
      have HFO := Lib.hid hFo
      clear hm hFo HS H
      obtain ⟨ao2, cap2, e0, hF2⟩ := hargF
      injection e0 with e1 e2 e3
      subst e1
      subst e3
      clear hao' e2
      rw [HM.out] at hF2 ⊢
      have H := Lib.hid hF2
      clear hF2
      obtain ⟨i1, hi, hz0', hzs, hzb⟩ := info_parts info23
      go_wp2
      obtain ⟨C, hC⟩ : ∃ C, wr.heap.size = C := ⟨_, rfl⟩
      have b0 : Below C wr (wr.alloc (.cells #[.int .i64 0, .int .i64 0] 78)) := by rw [← hC]; exact (Below.refl _ _).alloc (Nat.le_refl _) _
      have cv0 : cov2 (wr.alloc (.cells #[.int .i64 0, .int .i64 0] 78)) C 0 0 := by rw [← hC]; exact ⟨⟨by simp, by simp⟩, by simp, by simp, by simp⟩
      have hCw : w.heap.size ≤ C := by rw [← hC]; exact hnx.size
      rw [hC] at H
      rw [hC]
      clear hC
      generalize hW0 : wr.alloc (.cells #[.int .i64 0, .int .i64 0] 78) = W0 at *
      clear hW0
      go_loopw [12, 14, 15, 42] (fun bd st op i W => ∃ (j : Nat) (sc : Sc), j ≤ m ∧ i = .int .i64 (j : Int) ∧ st = .int .i64 sc.start ∧ op = .bool sc.op ∧ W.ownsRow (C + 1) 33 4 bd sc.band.length (cellsR (Band.flat ⟨top, bot - top, sc.band⟩)) ∧ sc.band.length ≤ j ∧ Below C wr W ∧ cov2 W C sc.c0 sc.c1 ∧
        ((-(j : Int) ≤ sc.c0 ∧ sc.c0 ≤ j) ∧ (-(j : Int) ≤ sc.c1 ∧ sc.c1 ≤ j) ∧ (-1048576 ≤ sc.start ∧ sc.start ≤ 1048576)) ∧ scan keep (F.drop j) sc = scan keep F sc0) (fun _ _ _ i _ => (m - (intOf i).toNat))
      case atStart => exact ⟨0, sc0, by omega, rfl, rfl, rfl, World.ownsRow_nil _ _ _ _, by simp [sc0], b0, cv0, by simp [sc0], rfl⟩
      case round =>
        obtain ⟨j, sc, hj, rfl, rfl, rfl, hown, hbl, hnb, hcv, hbd, hsc⟩ := hrel
        by_cases hjm : j < m
        · obtain ⟨g, o, rfl, hblk, hc⟩ := H.out (by omega)
          have hsd := scan_drop keep F j (by rw [HM.out]; exact hjm) sc
          have hZo := HFO.out _ (getS_mem (L := F) (k := j) (by rw [HM.out]; exact hjm))
          have hle := last_end F j
          have hlm := last_mid F j
          rw [HM.out] at hle hlm
          obtain ⟨f0, f1, f2, f3, f4⟩ := hc j hjm
          have HC := Lib.hid hc
          clear hc
          obtain ⟨⟨v0, v1⟩, w0, w1, hz⟩ := hcv
          replace f0 := (hnb.cell (p := ⟨g, o + j * 5, none⟩) hblk).trans f0
          replace f1 := (hnb.cell (p := ⟨g, o + j * 5 + 1, none⟩) hblk).trans f1
          replace f2 := (hnb.cell (p := ⟨g, o + j * 5 + 2, none⟩) hblk).trans f2
          replace f3 := (hnb.cell (p := ⟨g, o + j * 5 + 3, none⟩) hblk).trans f3
          replace f4 := (hnb.cell (p := ⟨g, o + j * 5 + 4, none⟩) hblk).trans f4
          generalize F.getD j Sd.zero = Z at *
          generalize hla : lastAt F j = last at *
          obtain ⟨zn, zx, zt, zb, zs⟩ := Z
          obtain ⟨hzn, ⟨hzx1, hzx2⟩, hzs'⟩ := hZo
          simp only at f0 f1 f2 f3 f4 hzn hzx1 hzx2 hzs'
          have hzs2 : -1 ≤ zs ∧ zs ≤ 1 := by omega
          obtain ⟨⟨hb1', hb2'⟩, ⟨hb3, hb4⟩, hb5, hb6⟩ := hbd
          have HSC := Lib.hid hsc
          have HSD := Lib.hid hsd
          have kk : IntKind.i64.wrap ((j : Int) + 1) = (j : Int) + 1 := IntWalk.i64_in _ (by omega)
          have k0 : IntKind.i64.wrap (sc.c0 + zs) = sc.c0 + zs := IntWalk.i64_in _ (by omega)
          have k1 : IntKind.i64.wrap (sc.c1 + zs) = sc.c1 + zs := IntWalk.i64_in _ (by omega)
          clear hzs' hla hsc hsd
          rcases hzn with rfl | rfl
          · have hown2 := fun x o => World.ownsRow.alloc (own_set hown ⟨C, 0, none⟩ (Nat.lt_succ_self C) x) o
            have hnb2 := fun x o => below_two hnb (p := ⟨C, 0, none⟩) (Nat.le_refl C) (Nat.le_of_lt hz) x o
            have hcv2 := cov2_set0 (show cov2 wr C sc.c0 sc.c1 from ⟨⟨v0, v1⟩, w0, w1, hz⟩)
            have HO2 := Lib.hid hown2
            have HN2 := Lib.hid hnb2
            have HV2 := Lib.hid hcv2
            clear hown2 hnb2 hcv2
            have kt : ((j : Int) + 1).toNat = j + 1 := by omega
            have kp : (0 : Int) ≤ (j : Int) + 1 := by omega
            have hgW : g < wr.heap.size := by omega
            have hgC : g ≠ C := by omega
            by_cases hj1 : j + 1 < m
            · obtain ⟨y0, y1, y2, y3, y4⟩ := HC.out (j + 1) hj1
              replace y1 := (hnb.cell (p := ⟨g, o + (j + 1) * 5 + 1, none⟩) hblk).trans y1
              have hl1 := hlm hj1
              have hji : (j : Int) + 1 < (m : Int) := by omega
              have hsd2 := HSD.out
              rw [HSC.out] at hsd2
              clear y0 y2 y3 y4 hle hlm HSD
              generalize (F.getD (j + 1) Sd.zero).x = yx at *
              by_cases hyx : yx = zx
              · subst hyx
                have HL : Hid (last = false) := Lib.hid (by rw [hl1]; simp)
                clear hl1
                rw [HL.out, step_more0] at hsd2
                have HSD2 := Lib.hid hsd2
                clear hsd2
                go_wp2
                go_region
                go_wp2
                go_quiet (fail)
                go_wp2
                go_roundw
                case rel => exact ⟨j + 1, ⟨sc.c0 + zs, sc.c1, sc.start, sc.op, sc.band⟩, by omega, by simp, rfl, rfl, HO2.out _ _, by simp only; omega, below_drewN (HN2.out _ _) _, HV2.out _ _, by simp only; omega, HSD2.out.symm⟩
                case measure => simp [intOf]; omega
              · have HL : Hid (last = true) := Lib.hid (by rw [hl1]; simp [hyx])
                have hd := decide_eq_false (p := yx = zx) hyx
                have hd2 : ((yx : Int) == zx) = false := by simpa using hyx
                clear hl1 hyx
                replace hsd2 := hsd2.symm
                obtain ⟨r, hr⟩ : ∃ r, keep (decide (0 < sc.c0 + zs)) (decide (0 < sc.c1)) = r := ⟨_, rfl⟩
                have hst := step_last0 keep zx zt zb zs sc r hr
                rw [HL.out, hst] at hsd2
                have CK := Lib.hid (show ∀ W, Calls Try.prog kf #[.bool (decide (0 < sc.c0 + zs)), .bool (decide (0 < sc.c1))] W fun e w' => e = .returned (.bool r) ∧ W = w' from fun W => by rw [← hr]; exact HK.out _ _ W)
                clear hr hst
                obtain ⟨op, hop⟩ : ∃ op, sc.op = op := ⟨_, rfl⟩
                rw [hop] at hsd2 ⊢
                clear hop
                cases r <;> cases op
                · have HSD2 := Lib.hid hsd2
                  clear hsd2
                  go_wp2
                  go_region
                  go_wp2
                  go_quiet (fail)
                  go_wp2_with (go_at_fn kf; ((with_reducible refine (CK.out _).mono ?_)); rintro e w1 ⟨rfl, rfl⟩)
                  go_roundw
                  case rel => exact ⟨j + 1, ⟨sc.c0 + zs, sc.c1, sc.start, false, sc.band⟩, by omega, by simp, rfl, rfl, HO2.out _ _, by simp only; omega, below_drewN (HN2.out _ _) _, HV2.out _ _, by simp only; omega, HSD2.out⟩
                  case measure => simp [intOf]; omega
                · have HSD2 := Lib.hid hsd2
                  clear hsd2
                  go_wp2
                  go_region
                  go_wp2
                  go_quiet (fail)
                  have ks : IntKind.i64.wrap (zx - sc.start) = zx - sc.start := IntWalk.i64_in _ (by omega)
                  have kb : IntKind.i64.wrap (bot - top) = bot - top := IntWalk.i64_in _ (by omega)
                  go_wp2_with (first | (go_at_fn kf; ((with_reducible refine (CK.out _).mono ?_)); rintro e w1 ⟨rfl, rfl⟩) | (at_builtin; refine wpList_append_own _ rfl _ _ 22 rfl (C + 1) 33 i1 (.agg #[.int .i64 0, .int .i64 0, .int .i64 0, .int .i64 0]) 4 32 Try.underlying22 hi hz0' hzs hzb rfl (by decide) _ _ _ rfl ((HO2.out _ _).alloc _) ⟨wr.heap.size + 1, 0, none⟩ 1 1 [.int .i64 sc.start, .int .i64 top, .int .i64 (zx - sc.start), .int .i64 (bot - top)] rfl rfl ?c1 ?c2 ?c3 ?c4 ?c5 ?_))
                  case c1 =>
                    intro j u hj
                    match j, hj with
                    | 0, hj => simp at hj; subst hj; first | (simp [Addr.add]; done) | exact (World.cell?_alloc_at _ _ _ _ (by simp)).trans rfl
                    | 1, hj => simp at hj; subst hj; first | (simp [Addr.add]; done) | exact (World.cell?_alloc_at _ _ _ _ (by simp)).trans rfl
                    | 2, hj => simp at hj; subst hj; first | (simp [Addr.add]; done) | exact (World.cell?_alloc_at _ _ _ _ (by simp)).trans rfl
                    | 3, hj => simp at hj; subst hj; first | (simp [Addr.add]; done) | exact (World.cell?_alloc_at _ _ _ _ (by simp)).trans rfl
                  case c2 => intro u hu; simp at hu; rcases hu with rfl | rfl | rfl | rfl <;> rfl
                  case c3 => unfold maxLen; omega
                  case c4 => omega
                  case c5 => simp; omega
                  intro v' w3 hown' hgrow _
                  obtain ⟨hn3, hc3⟩ := app_state2 (HN2.out (sc.c0 + zs) (.cells #[.int .i64 0, .int .i64 zx, .int .i64 zt, .int .i64 zb, .int .i64 zs] 63)) (HV2.out (sc.c0 + zs) (.cells #[.int .i64 0, .int .i64 zx, .int .i64 zt, .int .i64 zb, .int .i64 zs] 63)) (HO2.out (.int .i64 (sc.c0 + zs)) (.cells #[.int .i64 0, .int .i64 zx, .int .i64 zt, .int .i64 zb, .int .i64 zs] 63)) hgrow (by first | exact below_drewN (Below.alloc (Below.refl _ _) (Nat.le_refl _) _) _ | exact Below.alloc (below_drewN (Below.refl _ _) _) (Nat.le_refl _) _ | exact Below.alloc (Below.refl _ _) (Nat.le_refl _) _)
                  clear hgrow
                  go_wp2
                  go_roundw
                  case rel => exact ⟨j + 1, ⟨sc.c0 + zs, sc.c1, sc.start, false, sc.band ++ [(sc.start, zx - sc.start)]⟩, by omega, by simp, rfl, rfl, band_snoc hown', by simp only [List.length_append, List.length_singleton]; omega, hn3, hc3, by simp only; omega, HSD2.out⟩
                  case measure => simp [intOf]; omega
                · have HSD2 := Lib.hid hsd2
                  clear hsd2
                  go_wp2
                  go_region
                  go_wp2
                  go_quiet (fail)
                  go_wp2_with (go_at_fn kf; ((with_reducible refine (CK.out _).mono ?_)); rintro e w1 ⟨rfl, rfl⟩)
                  go_roundw
                  case rel => exact ⟨j + 1, ⟨sc.c0 + zs, sc.c1, zx, true, sc.band⟩, by omega, by simp, rfl, rfl, HO2.out _ _, by simp only; omega, below_drewN (HN2.out _ _) _, HV2.out _ _, by simp only; omega, HSD2.out⟩
                  case measure => simp [intOf]; omega
                · have HSD2 := Lib.hid hsd2
                  clear hsd2
                  go_wp2
                  go_region
                  go_wp2
                  go_quiet (fail)
                  go_wp2_with (go_at_fn kf; ((with_reducible refine (CK.out _).mono ?_)); rintro e w1 ⟨rfl, rfl⟩)
                  go_roundw
                  case rel => exact ⟨j + 1, ⟨sc.c0 + zs, sc.c1, sc.start, true, sc.band⟩, by omega, by simp, rfl, rfl, HO2.out _ _, by simp only; omega, below_drewN (HN2.out _ _) _, HV2.out _ _, by simp only; omega, HSD2.out⟩
                  case measure => simp [intOf]; omega
            · have HL : Hid (last = true) := Lib.hid (hle (by omega))
              have hsd2 := HSD.out
              rw [HSC.out] at hsd2
              replace hsd2 := hsd2.symm
              have hd := decide_eq_false (p := (j : Int) + 1 < (m : Int)) (by omega)
              clear hle hlm HSD
              obtain ⟨r, hr⟩ : ∃ r, keep (decide (0 < sc.c0 + zs)) (decide (0 < sc.c1)) = r := ⟨_, rfl⟩
              have hst := step_last0 keep zx zt zb zs sc r hr
              rw [HL.out, hst] at hsd2
              have CK := Lib.hid (show ∀ W, Calls Try.prog kf #[.bool (decide (0 < sc.c0 + zs)), .bool (decide (0 < sc.c1))] W fun e w' => e = .returned (.bool r) ∧ W = w' from fun W => by rw [← hr]; exact HK.out _ _ W)
              clear hr hst
              obtain ⟨op, hop⟩ : ∃ op, sc.op = op := ⟨_, rfl⟩
              rw [hop] at hsd2 ⊢
              clear hop
              cases r <;> cases op
              · have HSD2 := Lib.hid hsd2
                clear hsd2
                go_wp2
                go_region
                go_wp2
                go_quiet (fail)
                go_wp2_with (go_at_fn kf; ((with_reducible refine (CK.out _).mono ?_)); rintro e w1 ⟨rfl, rfl⟩)
                go_roundw
                case rel => exact ⟨j + 1, ⟨sc.c0 + zs, sc.c1, sc.start, false, sc.band⟩, by omega, by simp, rfl, rfl, HO2.out _ _, by simp only; omega, below_drewN (HN2.out _ _) _, HV2.out _ _, by simp only; omega, HSD2.out⟩
                case measure => simp [intOf]; omega
              · have HSD2 := Lib.hid hsd2
                clear hsd2
                go_wp2
                go_region
                go_wp2
                go_quiet (fail)
                have ks : IntKind.i64.wrap (zx - sc.start) = zx - sc.start := IntWalk.i64_in _ (by omega)
                have kb : IntKind.i64.wrap (bot - top) = bot - top := IntWalk.i64_in _ (by omega)
                go_wp2_with (first | (go_at_fn kf; ((with_reducible refine (CK.out _).mono ?_)); rintro e w1 ⟨rfl, rfl⟩) | (at_builtin; refine wpList_append_own _ rfl _ _ 22 rfl (C + 1) 33 i1 (.agg #[.int .i64 0, .int .i64 0, .int .i64 0, .int .i64 0]) 4 32 Try.underlying22 hi hz0' hzs hzb rfl (by decide) _ _ _ rfl ((HO2.out _ _).alloc _) ⟨wr.heap.size + 1, 0, none⟩ 1 1 [.int .i64 sc.start, .int .i64 top, .int .i64 (zx - sc.start), .int .i64 (bot - top)] rfl rfl ?c1 ?c2 ?c3 ?c4 ?c5 ?_))
                case c1 =>
                  intro j u hj
                  match j, hj with
                  | 0, hj => simp at hj; subst hj; first | (simp [Addr.add]; done) | exact (World.cell?_alloc_at _ _ _ _ (by simp)).trans rfl
                  | 1, hj => simp at hj; subst hj; first | (simp [Addr.add]; done) | exact (World.cell?_alloc_at _ _ _ _ (by simp)).trans rfl
                  | 2, hj => simp at hj; subst hj; first | (simp [Addr.add]; done) | exact (World.cell?_alloc_at _ _ _ _ (by simp)).trans rfl
                  | 3, hj => simp at hj; subst hj; first | (simp [Addr.add]; done) | exact (World.cell?_alloc_at _ _ _ _ (by simp)).trans rfl
                case c2 => intro u hu; simp at hu; rcases hu with rfl | rfl | rfl | rfl <;> rfl
                case c3 => unfold maxLen; omega
                case c4 => omega
                case c5 => simp; omega
                intro v' w3 hown' hgrow _
                obtain ⟨hn3, hc3⟩ := app_state2 (HN2.out (sc.c0 + zs) (.cells #[.int .i64 0, .int .i64 zx, .int .i64 zt, .int .i64 zb, .int .i64 zs] 63)) (HV2.out (sc.c0 + zs) (.cells #[.int .i64 0, .int .i64 zx, .int .i64 zt, .int .i64 zb, .int .i64 zs] 63)) (HO2.out (.int .i64 (sc.c0 + zs)) (.cells #[.int .i64 0, .int .i64 zx, .int .i64 zt, .int .i64 zb, .int .i64 zs] 63)) hgrow (by first | exact below_drewN (Below.alloc (Below.refl _ _) (Nat.le_refl _) _) _ | exact Below.alloc (below_drewN (Below.refl _ _) _) (Nat.le_refl _) _ | exact Below.alloc (Below.refl _ _) (Nat.le_refl _) _)
                clear hgrow
                go_wp2
                go_roundw
                case rel => exact ⟨j + 1, ⟨sc.c0 + zs, sc.c1, sc.start, false, sc.band ++ [(sc.start, zx - sc.start)]⟩, by omega, by simp, rfl, rfl, band_snoc hown', by simp only [List.length_append, List.length_singleton]; omega, hn3, hc3, by simp only; omega, HSD2.out⟩
                case measure => simp [intOf]; omega
              · have HSD2 := Lib.hid hsd2
                clear hsd2
                go_wp2
                go_region
                go_wp2
                go_quiet (fail)
                go_wp2_with (go_at_fn kf; ((with_reducible refine (CK.out _).mono ?_)); rintro e w1 ⟨rfl, rfl⟩)
                go_roundw
                case rel => exact ⟨j + 1, ⟨sc.c0 + zs, sc.c1, zx, true, sc.band⟩, by omega, by simp, rfl, rfl, HO2.out _ _, by simp only; omega, below_drewN (HN2.out _ _) _, HV2.out _ _, by simp only; omega, HSD2.out⟩
                case measure => simp [intOf]; omega
              · have HSD2 := Lib.hid hsd2
                clear hsd2
                go_wp2
                go_region
                go_wp2
                go_quiet (fail)
                go_wp2_with (go_at_fn kf; ((with_reducible refine (CK.out _).mono ?_)); rintro e w1 ⟨rfl, rfl⟩)
                go_roundw
                case rel => exact ⟨j + 1, ⟨sc.c0 + zs, sc.c1, sc.start, true, sc.band⟩, by omega, by simp, rfl, rfl, HO2.out _ _, by simp only; omega, below_drewN (HN2.out _ _) _, HV2.out _ _, by simp only; omega, HSD2.out⟩
                case measure => simp [intOf]; omega
          · have hown2 := fun x o => World.ownsRow.alloc (own_set hown ⟨C, 1, none⟩ (Nat.lt_succ_self C) x) o
            have hnb2 := fun x o => below_two hnb (p := ⟨C, 1, none⟩) (Nat.le_refl C) (Nat.le_of_lt hz) x o
            have hcv2 := cov2_set1 (show cov2 wr C sc.c0 sc.c1 from ⟨⟨v0, v1⟩, w0, w1, hz⟩)
            have HO2 := Lib.hid hown2
            have HN2 := Lib.hid hnb2
            have HV2 := Lib.hid hcv2
            clear hown2 hnb2 hcv2
            have kt : ((j : Int) + 1).toNat = j + 1 := by omega
            have kp : (0 : Int) ≤ (j : Int) + 1 := by omega
            have hgW : g < wr.heap.size := by omega
            have hgC : g ≠ C := by omega
            by_cases hj1 : j + 1 < m
            · obtain ⟨y0, y1, y2, y3, y4⟩ := HC.out (j + 1) hj1
              replace y1 := (hnb.cell (p := ⟨g, o + (j + 1) * 5 + 1, none⟩) hblk).trans y1
              have hl1 := hlm hj1
              have hji : (j : Int) + 1 < (m : Int) := by omega
              have hsd2 := HSD.out
              rw [HSC.out] at hsd2
              clear y0 y2 y3 y4 hle hlm HSD
              generalize (F.getD (j + 1) Sd.zero).x = yx at *
              by_cases hyx : yx = zx
              · subst hyx
                have HL : Hid (last = false) := Lib.hid (by rw [hl1]; simp)
                clear hl1
                rw [HL.out, step_more1] at hsd2
                have HSD2 := Lib.hid hsd2
                clear hsd2
                go_wp2
                go_region
                go_wp2
                go_quiet (fail)
                go_wp2
                go_roundw
                case rel => exact ⟨j + 1, ⟨sc.c0, sc.c1 + zs, sc.start, sc.op, sc.band⟩, by omega, by simp, rfl, rfl, HO2.out _ _, by simp only; omega, below_drewN (HN2.out _ _) _, HV2.out _ _, by simp only; omega, HSD2.out.symm⟩
                case measure => simp [intOf]; omega
              · have HL : Hid (last = true) := Lib.hid (by rw [hl1]; simp [hyx])
                have hd := decide_eq_false (p := yx = zx) hyx
                have hd2 : ((yx : Int) == zx) = false := by simpa using hyx
                clear hl1 hyx
                replace hsd2 := hsd2.symm
                obtain ⟨r, hr⟩ : ∃ r, keep (decide (0 < sc.c0)) (decide (0 < sc.c1 + zs)) = r := ⟨_, rfl⟩
                have hst := step_last1 keep zx zt zb zs sc r hr
                rw [HL.out, hst] at hsd2
                have CK := Lib.hid (show ∀ W, Calls Try.prog kf #[.bool (decide (0 < sc.c0)), .bool (decide (0 < sc.c1 + zs))] W fun e w' => e = .returned (.bool r) ∧ W = w' from fun W => by rw [← hr]; exact HK.out _ _ W)
                clear hr hst
                obtain ⟨op, hop⟩ : ∃ op, sc.op = op := ⟨_, rfl⟩
                rw [hop] at hsd2 ⊢
                clear hop
                cases r <;> cases op
                · have HSD2 := Lib.hid hsd2
                  clear hsd2
                  go_wp2
                  go_region
                  go_wp2
                  go_quiet (fail)
                  go_wp2_with (go_at_fn kf; ((with_reducible refine (CK.out _).mono ?_)); rintro e w1 ⟨rfl, rfl⟩)
                  go_roundw
                  case rel => exact ⟨j + 1, ⟨sc.c0, sc.c1 + zs, sc.start, false, sc.band⟩, by omega, by simp, rfl, rfl, HO2.out _ _, by simp only; omega, below_drewN (HN2.out _ _) _, HV2.out _ _, by simp only; omega, HSD2.out⟩
                  case measure => simp [intOf]; omega
                · have HSD2 := Lib.hid hsd2
                  clear hsd2
                  go_wp2
                  go_region
                  go_wp2
                  go_quiet (fail)
                  have ks : IntKind.i64.wrap (zx - sc.start) = zx - sc.start := IntWalk.i64_in _ (by omega)
                  have kb : IntKind.i64.wrap (bot - top) = bot - top := IntWalk.i64_in _ (by omega)
                  go_wp2_with (first | (go_at_fn kf; ((with_reducible refine (CK.out _).mono ?_)); rintro e w1 ⟨rfl, rfl⟩) | (at_builtin; refine wpList_append_own _ rfl _ _ 22 rfl (C + 1) 33 i1 (.agg #[.int .i64 0, .int .i64 0, .int .i64 0, .int .i64 0]) 4 32 Try.underlying22 hi hz0' hzs hzb rfl (by decide) _ _ _ rfl ((HO2.out _ _).alloc _) ⟨wr.heap.size + 1, 0, none⟩ 1 1 [.int .i64 sc.start, .int .i64 top, .int .i64 (zx - sc.start), .int .i64 (bot - top)] rfl rfl ?c1 ?c2 ?c3 ?c4 ?c5 ?_))
                  case c1 =>
                    intro j u hj
                    match j, hj with
                    | 0, hj => simp at hj; subst hj; first | (simp [Addr.add]; done) | exact (World.cell?_alloc_at _ _ _ _ (by simp)).trans rfl
                    | 1, hj => simp at hj; subst hj; first | (simp [Addr.add]; done) | exact (World.cell?_alloc_at _ _ _ _ (by simp)).trans rfl
                    | 2, hj => simp at hj; subst hj; first | (simp [Addr.add]; done) | exact (World.cell?_alloc_at _ _ _ _ (by simp)).trans rfl
                    | 3, hj => simp at hj; subst hj; first | (simp [Addr.add]; done) | exact (World.cell?_alloc_at _ _ _ _ (by simp)).trans rfl
                  case c2 => intro u hu; simp at hu; rcases hu with rfl | rfl | rfl | rfl <;> rfl
                  case c3 => unfold maxLen; omega
                  case c4 => omega
                  case c5 => simp; omega
                  intro v' w3 hown' hgrow _
                  obtain ⟨hn3, hc3⟩ := app_state2 (HN2.out (sc.c1 + zs) (.cells #[.int .i64 1, .int .i64 zx, .int .i64 zt, .int .i64 zb, .int .i64 zs] 63)) (HV2.out (sc.c1 + zs) (.cells #[.int .i64 1, .int .i64 zx, .int .i64 zt, .int .i64 zb, .int .i64 zs] 63)) (HO2.out (.int .i64 (sc.c1 + zs)) (.cells #[.int .i64 1, .int .i64 zx, .int .i64 zt, .int .i64 zb, .int .i64 zs] 63)) hgrow (by first | exact below_drewN (Below.alloc (Below.refl _ _) (Nat.le_refl _) _) _ | exact Below.alloc (below_drewN (Below.refl _ _) _) (Nat.le_refl _) _ | exact Below.alloc (Below.refl _ _) (Nat.le_refl _) _)
                  clear hgrow
                  go_wp2
                  go_roundw
                  case rel => exact ⟨j + 1, ⟨sc.c0, sc.c1 + zs, sc.start, false, sc.band ++ [(sc.start, zx - sc.start)]⟩, by omega, by simp, rfl, rfl, band_snoc hown', by simp only [List.length_append, List.length_singleton]; omega, hn3, hc3, by simp only; omega, HSD2.out⟩
                  case measure => simp [intOf]; omega
                · have HSD2 := Lib.hid hsd2
                  clear hsd2
                  go_wp2
                  go_region
                  go_wp2
                  go_quiet (fail)
                  go_wp2_with (go_at_fn kf; ((with_reducible refine (CK.out _).mono ?_)); rintro e w1 ⟨rfl, rfl⟩)
                  go_roundw
                  case rel => exact ⟨j + 1, ⟨sc.c0, sc.c1 + zs, zx, true, sc.band⟩, by omega, by simp, rfl, rfl, HO2.out _ _, by simp only; omega, below_drewN (HN2.out _ _) _, HV2.out _ _, by simp only; omega, HSD2.out⟩
                  case measure => simp [intOf]; omega
                · have HSD2 := Lib.hid hsd2
                  clear hsd2
                  go_wp2
                  go_region
                  go_wp2
                  go_quiet (fail)
                  go_wp2_with (go_at_fn kf; ((with_reducible refine (CK.out _).mono ?_)); rintro e w1 ⟨rfl, rfl⟩)
                  go_roundw
                  case rel => exact ⟨j + 1, ⟨sc.c0, sc.c1 + zs, sc.start, true, sc.band⟩, by omega, by simp, rfl, rfl, HO2.out _ _, by simp only; omega, below_drewN (HN2.out _ _) _, HV2.out _ _, by simp only; omega, HSD2.out⟩
                  case measure => simp [intOf]; omega
            · have HL : Hid (last = true) := Lib.hid (hle (by omega))
              have hsd2 := HSD.out
              rw [HSC.out] at hsd2
              replace hsd2 := hsd2.symm
              have hd := decide_eq_false (p := (j : Int) + 1 < (m : Int)) (by omega)
              clear hle hlm HSD
              obtain ⟨r, hr⟩ : ∃ r, keep (decide (0 < sc.c0)) (decide (0 < sc.c1 + zs)) = r := ⟨_, rfl⟩
              have hst := step_last1 keep zx zt zb zs sc r hr
              rw [HL.out, hst] at hsd2
              have CK := Lib.hid (show ∀ W, Calls Try.prog kf #[.bool (decide (0 < sc.c0)), .bool (decide (0 < sc.c1 + zs))] W fun e w' => e = .returned (.bool r) ∧ W = w' from fun W => by rw [← hr]; exact HK.out _ _ W)
              clear hr hst
              obtain ⟨op, hop⟩ : ∃ op, sc.op = op := ⟨_, rfl⟩
              rw [hop] at hsd2 ⊢
              clear hop
              cases r <;> cases op
              · have HSD2 := Lib.hid hsd2
                clear hsd2
                go_wp2
                go_region
                go_wp2
                go_quiet (fail)
                go_wp2_with (go_at_fn kf; ((with_reducible refine (CK.out _).mono ?_)); rintro e w1 ⟨rfl, rfl⟩)
                go_roundw
                case rel => exact ⟨j + 1, ⟨sc.c0, sc.c1 + zs, sc.start, false, sc.band⟩, by omega, by simp, rfl, rfl, HO2.out _ _, by simp only; omega, below_drewN (HN2.out _ _) _, HV2.out _ _, by simp only; omega, HSD2.out⟩
                case measure => simp [intOf]; omega
              · have HSD2 := Lib.hid hsd2
                clear hsd2
                go_wp2
                go_region
                go_wp2
                go_quiet (fail)
                have ks : IntKind.i64.wrap (zx - sc.start) = zx - sc.start := IntWalk.i64_in _ (by omega)
                have kb : IntKind.i64.wrap (bot - top) = bot - top := IntWalk.i64_in _ (by omega)
                go_wp2_with (first | (go_at_fn kf; ((with_reducible refine (CK.out _).mono ?_)); rintro e w1 ⟨rfl, rfl⟩) | (at_builtin; refine wpList_append_own _ rfl _ _ 22 rfl (C + 1) 33 i1 (.agg #[.int .i64 0, .int .i64 0, .int .i64 0, .int .i64 0]) 4 32 Try.underlying22 hi hz0' hzs hzb rfl (by decide) _ _ _ rfl ((HO2.out _ _).alloc _) ⟨wr.heap.size + 1, 0, none⟩ 1 1 [.int .i64 sc.start, .int .i64 top, .int .i64 (zx - sc.start), .int .i64 (bot - top)] rfl rfl ?c1 ?c2 ?c3 ?c4 ?c5 ?_))
                case c1 =>
                  intro j u hj
                  match j, hj with
                  | 0, hj => simp at hj; subst hj; first | (simp [Addr.add]; done) | exact (World.cell?_alloc_at _ _ _ _ (by simp)).trans rfl
                  | 1, hj => simp at hj; subst hj; first | (simp [Addr.add]; done) | exact (World.cell?_alloc_at _ _ _ _ (by simp)).trans rfl
                  | 2, hj => simp at hj; subst hj; first | (simp [Addr.add]; done) | exact (World.cell?_alloc_at _ _ _ _ (by simp)).trans rfl
                  | 3, hj => simp at hj; subst hj; first | (simp [Addr.add]; done) | exact (World.cell?_alloc_at _ _ _ _ (by simp)).trans rfl
                case c2 => intro u hu; simp at hu; rcases hu with rfl | rfl | rfl | rfl <;> rfl
                case c3 => unfold maxLen; omega
                case c4 => omega
                case c5 => simp; omega
                intro v' w3 hown' hgrow _
                obtain ⟨hn3, hc3⟩ := app_state2 (HN2.out (sc.c1 + zs) (.cells #[.int .i64 1, .int .i64 zx, .int .i64 zt, .int .i64 zb, .int .i64 zs] 63)) (HV2.out (sc.c1 + zs) (.cells #[.int .i64 1, .int .i64 zx, .int .i64 zt, .int .i64 zb, .int .i64 zs] 63)) (HO2.out (.int .i64 (sc.c1 + zs)) (.cells #[.int .i64 1, .int .i64 zx, .int .i64 zt, .int .i64 zb, .int .i64 zs] 63)) hgrow (by first | exact below_drewN (Below.alloc (Below.refl _ _) (Nat.le_refl _) _) _ | exact Below.alloc (below_drewN (Below.refl _ _) _) (Nat.le_refl _) _ | exact Below.alloc (Below.refl _ _) (Nat.le_refl _) _)
                clear hgrow
                go_wp2
                go_roundw
                case rel => exact ⟨j + 1, ⟨sc.c0, sc.c1 + zs, sc.start, false, sc.band ++ [(sc.start, zx - sc.start)]⟩, by omega, by simp, rfl, rfl, band_snoc hown', by simp only [List.length_append, List.length_singleton]; omega, hn3, hc3, by simp only; omega, HSD2.out⟩
                case measure => simp [intOf]; omega
              · have HSD2 := Lib.hid hsd2
                clear hsd2
                go_wp2
                go_region
                go_wp2
                go_quiet (fail)
                go_wp2_with (go_at_fn kf; ((with_reducible refine (CK.out _).mono ?_)); rintro e w1 ⟨rfl, rfl⟩)
                go_roundw
                case rel => exact ⟨j + 1, ⟨sc.c0, sc.c1 + zs, zx, true, sc.band⟩, by omega, by simp, rfl, rfl, HO2.out _ _, by simp only; omega, below_drewN (HN2.out _ _) _, HV2.out _ _, by simp only; omega, HSD2.out⟩
                case measure => simp [intOf]; omega
              · have HSD2 := Lib.hid hsd2
                clear hsd2
                go_wp2
                go_region
                go_wp2
                go_quiet (fail)
                go_wp2_with (go_at_fn kf; ((with_reducible refine (CK.out _).mono ?_)); rintro e w1 ⟨rfl, rfl⟩)
                go_roundw
                case rel => exact ⟨j + 1, ⟨sc.c0, sc.c1 + zs, sc.start, true, sc.band⟩, by omega, by simp, rfl, rfl, HO2.out _ _, by simp only; omega, below_drewN (HN2.out _ _) _, HV2.out _ _, by simp only; omega, HSD2.out⟩
                case measure => simp [intOf]; omega
        · obtain rfl : j = m := by omega
          have hend : scan keep F sc0 = sc := by rw [← hsc, ← HM.out, List.drop_length]; rfl
          have HE := Lib.hid hend
          have HFF := HF
          clear hend hsc
          go_wp2
          go_ret
          refine ⟨_, rfl, hnx.trans (hnb.mono hCw), ?_⟩
          rw [HFF.out, HE.out]
          exact hown.mono (by omega)
end

end Go.Proofs.Ythknkgblddoapaa
