/-
  The runs of quarter, sine and Turn of package num and of their likes in the specification, for any angle, where the table of sines lies in its variable (the condition 'Tab', for num's own); the world has at most draws and new blocks.
-/
import Derived.Test.YtcbegpnmidhnjaaDoorProg
import Derived.WalkKit
import Derived.WalkLawsBesides
import Derived.Lib.Walk
import Derived.Lib.BitFns
import Derived.Lib.ItoaNum
import Derived.Lib.Mul64
import Derived.Laws.Bits64b
import Derived.Laws.BitsAllLaws
import Derived.Laws.Externs
import Derived.Deep.QuietTactic
import Derived.BigQuiet
import Derived.RowKit3
import Derived.Deep.LoopGhost
import Derived.Great.Walk
import Derived.Great.BuildSlice
import Derived.Laws.Rows
import Derived.Laws.Tables
import Derived.Laws.CopyOwn
import Derived.Lib.Hide
import Derived.Test.YtcbegpnmidhnjaaDoorInts
namespace Go.Proofs.YtcbegpnmidhnjaaDoor
open Go.RowKit
set_option maxHeartbeats 400000
set_option linter.unusedVariables false
def sines : List Int := [0, 1608, 3216, 4821, 6424, 8022, 9616, 11204, 12785, 14359, 15924, 17479, 19024,
    20557, 22078, 23586, 25080, 26558, 28020, 29466, 30893, 32303, 33692, 35062, 36410, 37736,
    39040, 40320, 41576, 42806, 44011, 45190, 46341, 47464, 48559, 49624, 50660, 51665, 52639,
    53581, 54491, 55368, 56212, 57022, 57798, 58538, 59244, 59914, 60547, 61145, 61705, 62228,
    62714, 63162, 63572, 63944, 64277, 64571, 64827, 65043, 65220, 65358, 65457, 65516, 65536]
def sn (i : Nat) : Int := sines.getD i 0
theorem sn_bd (i : Nat) (h : i < 65) : 0 ≤ sn i ∧ sn i ≤ 65536 := by
  have : ∀ j : Fin 65, 0 ≤ sn j.1 ∧ sn j.1 ≤ 65536 := by decide +kernel
  exact this ⟨i, h⟩
theorem sn_up (i : Nat) (h : i < 64) : 0 ≤ sn (i + 1) - sn i ∧ sn (i + 1) - sn i ≤ 1608 := by
  have : ∀ j : Fin 64, 0 ≤ sn (j.1 + 1) - sn j.1 ∧ sn (j.1 + 1) - sn j.1 ≤ 1608 := by decide +kernel
  exact this ⟨i, h⟩
/-- the sine of an angle from 0 to a quarter turn. -/
def qtr (u : Nat) : Int := if u = 16384 then 65536 else sn (u / 256) + dvi ((sn (u / 256 + 1) - sn (u / 256)) * ((u % 256 : Nat) : Int)) 256
theorem dvi_256 (p : Int) (h0 : 0 ≤ p) (h1 : p ≤ 1000000) : 0 ≤ dvi p 256 ∧ dvi p 256 * 256 ≤ p + 128 := by
  have h := dvi_flo p 256 (by omega) (by omega) (by omega) (by omega)
  have hr := (flo_rest p 256 (by omega) (by omega)).1 (by omega)
  rw [h]
  split <;> omega
theorem qtr_sum (I : Nat) (hI : I < 64) (F : Nat) (hF : F < 256) : 0 ≤ sn I + dvi ((sn (I + 1) - sn I) * (F : Int)) 256 ∧ sn I + dvi ((sn (I + 1) - sn I) * (F : Int)) 256 ≤ sn (I + 1) := by
  have hd := sn_up I hI
  have hs := sn_bd I (by omega)
  have hp : 0 ≤ (sn (I + 1) - sn I) * (F : Int) ∧ (sn (I + 1) - sn I) * (F : Int) ≤ (sn (I + 1) - sn I) * 256 :=
    ⟨Int.mul_nonneg hd.1 (by omega), Int.mul_le_mul_of_nonneg_left (by omega) hd.1⟩
  have := dvi_256 _ hp.1 (by omega)
  omega
/-- the table lies in the variable's block. -/
def Tab (w : World) : Prop := ∀ i : Nat, i < 65 → w.cell? ⟨2, i, none⟩ = some (.int .i64 (sn i))
theorem Tab.drewN {w : World} (h : Tab w) (n : Nat) : Tab (w.drewN n) := fun i hi => by simpa using h i hi
set_option maxRecDepth 100000 in
theorem t51 (u : Nat) (w : World) (hu : u ≤ 16384) (hT : Tab w) :
    Calls Tryd.prog 51 #[.int .i64 u] w fun e w' => e = .returned (.int .i64 (qtr u)) ∧ ∃ k, w' = w.drewN k := by
  by_cases h0 : u = 16384
  · subst h0
    have h64 := hT 64 (by omega)
    clear hT
    go_enter Tryd.func51, Tryd.ntmps51
    go_wp2
    go_ret
    exact ⟨ret_int (by unfold qtr; rfl), 0, rfl⟩
  · have hc1 := hT (u / 256) (by omega)
    have hc2 := hT (u / 256 + 1) (by omega)
    have h0' : ((u : Int) == 16384) = false := by simp; omega
    obtain ⟨I, hI⟩ : ∃ I, I = u / 256 := ⟨_, rfl⟩
    obtain ⟨F, hF⟩ : ∃ F, F = u % 256 := ⟨_, rfl⟩
    rw [← hI] at hc1 hc2
    have e1 : (u : Int) / 256 = (I : Int) := by omega
    have e2 : (u : Int) % 256 = (F : Int) := by omega
    have i1 : (I : Int) < 65 := by omega
    have i2 : (I : Int) + 1 < 65 := by omega
    have i3 : (0 : Int) ≤ (I : Int) + 1 := by omega
    have i4 : ((I : Int) + 1).toNat = I + 1 := by omega
    have i5 : IntKind.i64.wrap ((I : Int) + 1) = (I : Int) + 1 := IntWalk.i64_in _ (by omega)
    have hd := sn_up I (by omega)
    have hp : 0 ≤ (sn (I + 1) - sn I) * (F : Int) ∧ (sn (I + 1) - sn I) * (F : Int) ≤ 1608 * 255 :=
      ⟨Int.mul_nonneg hd.1 (by omega), Int.mul_le_mul hd.2 (by omega) (by omega) (by omega)⟩
    obtain ⟨p1, p2⟩ := hp
    have p3 := qtr_sum I (by omega) F (by omega)
    have hq : qtr u = sn I + dvi ((sn (I + 1) - sn I) * (F : Int)) 256 := by
      unfold qtr
      rw [if_neg h0, hI, hF]
    have i6 : IntKind.i64.wrap (sn (I + 1) - sn I) = sn (I + 1) - sn I := IntWalk.i64_in _ (by omega)
    have i7 : (u : Int).tmod 256 = (F : Int) := by rw [Int.tmod_eq_emod_of_nonneg (by omega)]; exact e2
    have i8 : IntKind.i64.wrap ((sn (I + 1) - sn I) * (F : Int)) = (sn (I + 1) - sn I) * (F : Int) := IntWalk.i64_in _ (by omega)
    have i9 : IntKind.i64.wrap (sn I + dvi ((sn (I + 1) - sn I) * (F : Int)) 256) = sn I + dvi ((sn (I + 1) - sn I) * (F : Int)) 256 := IntWalk.i64_in _ (by have := sn_bd (I + 1) (by omega); omega)
    have HQ := Lib.hid hq
    have c := fun w => t14 ((sn (I + 1) - sn I) * (F : Int)) 256 w (by omega) (by omega) (by omega) (by omega)
    have C := Lib.hid c
    clear hT h0 hI hF hq c e2 hd
    go_enter Tryd.func51, Tryd.ntmps51
    go_wp2
    go_quiet ((go_at_call 14; exact Calls.quiet_of (C.out _)))
    go_wp2
    go_ret
    exact ⟨ret_int HQ.out.symm, _, rfl⟩

def sin4 (a : Nat) : Int :=
  if a / 16384 = 0 then qtr (a % 16384) else if a / 16384 = 1 then qtr (16384 - a % 16384) else if a / 16384 = 2 then -qtr (a % 16384) else -qtr (16384 - a % 16384)
theorem qtr_bd (u : Nat) (h : u ≤ 16384) : 0 ≤ qtr u ∧ qtr u ≤ 65536 := by
  unfold qtr
  split
  · omega
  · have h1 := qtr_sum (u / 256) (by omega) (u % 256) (by omega)
    have h2 := sn_bd (u / 256 + 1) (by omega)
    omega
set_option maxRecDepth 100000 in
theorem t46 (a : Nat) (w : World) (ha : a ≤ 65535) (hT : Tab w) :
    Calls Tryd.prog 46 #[.int .i64 a] w fun e w' => e = .returned (.int .i64 (sin4 a)) ∧ ∃ k, w' = w.drewN k := by
  obtain ⟨q, hq⟩ : ∃ q, q = a / 16384 := ⟨_, rfl⟩
  obtain ⟨r, hr⟩ : ∃ r, r = a % 16384 := ⟨_, rfl⟩
  have e1 : (a : Int) / 16384 = (q : Int) := by omega
  have e2 : (a : Int) % 16384 = (r : Int) := by omega
  have hs : sin4 a = if q = 0 then qtr r else if q = 1 then qtr (16384 - r) else if q = 2 then -qtr r else -qtr (16384 - r) := by
    unfold sin4; rw [hq, hr]
  have c1 := t51 r w (by omega) hT
  have c2 := t51 (16384 - r) w (by omega) hT
  have b1 := qtr_bd r (by omega)
  have b2 := qtr_bd (16384 - r) (by omega)
  have e3 : (16384 : Int) - (r : Int) = ((16384 - r : Nat) : Int) := by omega
  generalize qtr (16384 - r) = y2 at *
  generalize 16384 - r = r2 at *
  generalize qtr r = y1 at *
  have HS := Lib.hid hs
  have C1 := Lib.hid c1
  have C2 := Lib.hid c2
  have hq4 : q = 0 ∨ q = 1 ∨ q = 2 ∨ q = 3 := by omega
  clear hs c1 c2 hT hq hr
  rcases hq4 with rfl | rfl | rfl | rfl
  · go_enter Tryd.func46, Tryd.ntmps46
    go_wp2_with (first | (go_at_call 51; (with_reducible refine (C1.out).mono ?_); rintro e w' ⟨rfl, nq, rfl⟩) | (go_at_call 51; (with_reducible refine (C2.out).mono ?_); rintro e w' ⟨rfl, nq, rfl⟩))
    go_ret
    exact ⟨ret_int HS.out.symm, _, rfl⟩
  · go_enter Tryd.func46, Tryd.ntmps46
    go_wp2_with (first | (go_at_call 51; (with_reducible refine (C1.out).mono ?_); rintro e w' ⟨rfl, nq, rfl⟩) | (go_at_call 51; (with_reducible refine (C2.out).mono ?_); rintro e w' ⟨rfl, nq, rfl⟩))
    go_ret
    exact ⟨ret_int HS.out.symm, _, rfl⟩
  · go_enter Tryd.func46, Tryd.ntmps46
    go_wp2_with (first | (go_at_call 51; (with_reducible refine (C1.out).mono ?_); rintro e w' ⟨rfl, nq, rfl⟩) | (go_at_call 51; (with_reducible refine (C2.out).mono ?_); rintro e w' ⟨rfl, nq, rfl⟩))
    go_ret
    exact ⟨ret_int HS.out.symm, _, rfl⟩
  · go_enter Tryd.func46, Tryd.ntmps46
    go_wp2_with (first | (go_at_call 51; (with_reducible refine (C1.out).mono ?_); rintro e w' ⟨rfl, nq, rfl⟩) | (go_at_call 51; (with_reducible refine (C2.out).mono ?_); rintro e w' ⟨rfl, nq, rfl⟩))
    go_ret
    exact ⟨ret_int HS.out.symm, _, rfl⟩

def zeros : Array Value := (List.replicate 65 (Value.int .i64 0)).toArray
def snv : Array Value := (sines.map (Value.int .i64)).toArray
theorem z46 : ∀ w, (zeroValue 46).run Tryd.prog w = .ok (.agg zeros) w := fun _ => by kernel_rfl
theorem sz46 : (Tryd.prog.info? 46).map (·.size) = some snv.size := by kernel_rfl
theorem one_snv : snv.all (·.oneCell') = true := by kernel_rfl
theorem t54 (w : World) :
    Calls Tryd.prog 54 #[] w fun e w' => e = .returned (.agg snv) ∧ w' = (w.alloc (.cells zeros 46)).setRow w.heap.size snv := by
  have hh : (w.alloc (.cells zeros 46)).heap[w.heap.size]? = some (.cells zeros 46 (0, 0)) := heap_alloc_new w _
  go_enter Tryd.func54, Tryd.ntmps54
  refine wp_seq_k fun K hK => ?_
  apply wp_region_lit
  refine Go.Great.wpList_allocTo rfl (some 0) rfl (.pointer (some ⟨w.heap.size, 0, none⟩)) (.cells zeros 46) (by kernel_rfl) ?_
  apply wpList_nil
  apply hK
  refine wp_seq_k fun K3 hK3 => ?_
  apply wp_region_lit
  refine wpList_buildTo rfl 46 _ rfl (some 1) rfl snv (by as_aux_lemma => kernel_rfl) ?_
  refine wpList_store_row rfl 46 _ _ rfl w.heap.size snv rfl rfl 46 zeros hh sz46 (by as_aux_lemma => kernel_rfl) one_snv ?_
  apply wpList_nil
  apply hK3
  apply wp_ret
  exact bodyPost_ret (v := .agg snv) (results_cell_row rfl _ _ w.heap.size 46 snv (0, 0) _ rfl (setRow_heap _ _ _ _ _ _ hh) Tryd.underlying46 rfl sz46) rfl ⟨rfl, rfl⟩

theorem Grown.drewN {W w' : World} (h : Grown W w') : ∀ n, Grown W (w'.drewN n)
  | 0 => h
  | n + 1 => Grown.drewN (w' := w'.drew) h.drew n
theorem Grown.trans {a b c : World} (h : Grown a b) (k : Grown b c) : Grown a c :=
  ⟨World.keptBut_trans h.1 k.1, fun x => (k.2.1 x).trans (h.2.1 x), Nat.le_trans h.2.2 k.2.2⟩
theorem frozen?_setRow (w : World) (g : Nat) (cs : Array Value) (a : Addr) : (w.setRow g cs).frozen? a = w.frozen? a := by
  unfold World.frozen? World.setRow
  simp only [Array.getElem?_modify]
  by_cases hg : g = a.block
  · simp only [hg, if_true]
    cases w.heap[a.block]? with
    | none => rfl
    | some o => cases o <;> rfl
  · simp only [hg, if_false]
theorem Grown.setRow {W w' : World} (h : Grown W w') {g : Nat} (hg : W.heap.size ≤ g) (cs : Array Value) : Grown W (w'.setRow g cs) := by
  obtain ⟨⟨h1, h2, h3⟩, hf, hs⟩ := h
  refine ⟨⟨h1, h2, fun i hi => ?_⟩, fun x => (frozen?_setRow _ _ _ _).trans (hf x), by simpa using hs⟩
  have e : (w'.setRow g cs).heap[i]? = w'.heap[i]? := setRow_other _ _ _ _ (by omega)
  rw [e]
  exact h3 i hi
/-- a world with more blocks behind its own, of which nothing has turned. -/
def Gr (w w' : World) : Prop := Below w.heap.size w w' ∧ Grown w w'
theorem Gr.trans {a b c : World} (h : Gr a b) (k : Gr b c) : Gr a c := ⟨h.1.trans (k.1.mono h.1.size), Grown.trans h.2 k.2⟩
theorem Gr.drewN {a b : World} (h : Gr a b) (n : Nat) : Gr a (b.drewN n) := ⟨h.1.trans ⟨rfl, rfl, rfl, Nat.le_refl _, fun _ _ => rfl⟩, Grown.drewN h.2 n⟩
theorem two_tables (w : World) : ∀ W1 W2 W3 : World, W1 = (w.alloc (.cells zeros 46)).setRow w.heap.size snv → W2 = W1.alloc (.cells zeros 46) → W3 = W2.setRow (w.heap.size + 1) snv →
    W1.heap.size = w.heap.size + 1 ∧ W2.heap[w.heap.size + 1]? = some (.cells zeros 46 (0, 0)) ∧ Gr w W3 ∧ (∀ i : Nat, i < 65 → W3.cell? ⟨w.heap.size + 1, i, none⟩ = some (.int .i64 (sn i))) := by
  rintro W1 W2 W3 h1 h2 h3
  have s1 : W1.heap.size = w.heap.size + 1 := by rw [h1]; simp
  have s2 : W2.heap[w.heap.size + 1]? = some (.cells zeros 46 (0, 0)) := by rw [h2, ← s1]; exact heap_alloc_new _ _
  refine ⟨s1, s2, ?_, fun i hi => ?_⟩
  · have b1 : Below w.heap.size w W1 := by rw [h1]; exact below_setRow ((Below.refl _ _).alloc (Nat.le_refl _) _) (Nat.le_refl _) _
    have b2 : Below w.heap.size w W2 := by rw [h2]; exact b1.alloc (by omega) _
    have g1 : Grown w W1 := by rw [h1]; exact Grown.setRow ((Grown.refl _).alloc _ _) (Nat.le_refl _) _
    have g2 : Grown w W2 := by rw [h2]; exact g1.alloc _ _
    exact ⟨by rw [h3]; exact below_setRow b2 (by omega) _, by rw [h3]; exact Grown.setRow g2 (by omega) _⟩
  · rw [h3, cell_setRow_same W2 _ _ _ _ _ _ s2]
    have : ∀ j : Fin 65, snv[j.1]? = some (.int .i64 (sn j.1)) := by
      intro j; simp only [snv, sn, List.getElem?_toArray, List.getElem?_map]
      have hj : j.1 < sines.length := j.2
      rw [List.getElem?_eq_getElem hj, List.getD_eq_getElem?_getD, List.getElem?_eq_getElem hj]; rfl
    exact this ⟨i, hi⟩
set_option maxRecDepth 100000 in
theorem t52 (u : Nat) (w : World) (hu : u ≤ 16384) :
    Calls Tryd.prog 52 #[.int .i64 u] w fun e w' => e = .returned (.int .i64 (qtr u)) ∧ Gr w w' := by
  obtain ⟨W1, h1⟩ : ∃ W1, W1 = (w.alloc (.cells zeros 46)).setRow w.heap.size snv := ⟨_, rfl⟩
  obtain ⟨W2, h2⟩ : ∃ W2, W2 = W1.alloc (.cells zeros 46) := ⟨_, rfl⟩
  obtain ⟨W3, h3⟩ : ∃ W3, W3 = W2.setRow (w.heap.size + 1) snv := ⟨_, rfl⟩
  obtain ⟨s1, s2, hB, hT⟩ := two_tables w W1 W2 W3 h1 h2 h3
  have c54 : Calls Tryd.prog 54 #[] w fun e w' => e = .returned (.agg snv) ∧ w' = W1 := by rw [h1]; exact t54 w
  have hold : zeros.size = snv.size := by kernel_rfl
  have H2 := Lib.hid h2
  have H3 := Lib.hid h3
  have HS2 := Lib.hid s2
  have HS1 := Lib.hid s1
  have HB := Lib.hid hB
  clear h1 h2 h3 s1 s2 hB
  by_cases h0 : u = 16384
  · subst h0
    have h64 := hT 64 (by omega)
    clear hT
    go_enter Tryd.func52, Tryd.ntmps52
    go_wp2_with (first | (go_at_call 54; refine c54.mono ?_; rintro e w' ⟨rfl, h1⟩; subst h1) | (refine Go.Great.wpList_runTo rfl (some 3) rfl (.pointer (some ⟨w.heap.size + 1, 0, none⟩)) W2 ?ha ?_) | (refine wpList_store_row rfl 46 (.tmp 3) (.tmp 5) rfl (w.heap.size + 1) snv rfl rfl 46 zeros HS2.out sz46 hold one_snv ?_; rw [← H3.out]))
    case ha => rw [H2.out, ← HS1.out]; kernel_rfl
    go_ret
    exact ⟨ret_int (by unfold qtr; rfl), HB.out⟩
  · have hc1 := hT (u / 256) (by omega)
    have hc2 := hT (u / 256 + 1) (by omega)
    have h0' : ((u : Int) == 16384) = false := by simp; omega
    obtain ⟨I, hI⟩ : ∃ I, I = u / 256 := ⟨_, rfl⟩
    obtain ⟨F, hF⟩ : ∃ F, F = u % 256 := ⟨_, rfl⟩
    rw [← hI] at hc1 hc2
    have e1 : (u : Int) / 256 = (I : Int) := by omega
    have i1 : (I : Int) < 65 := by omega
    have i2 : (I : Int) + 1 < 65 := by omega
    have i3 : (0 : Int) ≤ (I : Int) + 1 := by omega
    have i4 : ((I : Int) + 1).toNat = I + 1 := by omega
    have i5 : IntKind.i64.wrap ((I : Int) + 1) = (I : Int) + 1 := IntWalk.i64_in _ (by omega)
    have hd := sn_up I (by omega)
    have hp : 0 ≤ (sn (I + 1) - sn I) * (F : Int) ∧ (sn (I + 1) - sn I) * (F : Int) ≤ 1608 * 255 :=
      ⟨Int.mul_nonneg hd.1 (by omega), Int.mul_le_mul hd.2 (by omega) (by omega) (by omega)⟩
    obtain ⟨p1, p2⟩ := hp
    have p3 := qtr_sum I (by omega) F (by omega)
    have hq : qtr u = sn I + dvi ((sn (I + 1) - sn I) * (F : Int)) 256 := by
      unfold qtr
      rw [if_neg h0, hI, hF]
    have i6 : IntKind.i64.wrap (sn (I + 1) - sn I) = sn (I + 1) - sn I := IntWalk.i64_in _ (by omega)
    have i7 : IntKind.i64.wrap (256 * (I : Int)) = 256 * (I : Int) := IntWalk.i64_in _ (by omega)
    have i7' : IntKind.i64.wrap ((u : Int) - 256 * (I : Int)) = (F : Int) := by rw [IntWalk.i64_in _ (by omega)]; omega
    have i8 : IntKind.i64.wrap ((sn (I + 1) - sn I) * (F : Int)) = (sn (I + 1) - sn I) * (F : Int) := IntWalk.i64_in _ (by omega)
    have i9 : IntKind.i64.wrap (sn I + dvi ((sn (I + 1) - sn I) * (F : Int)) 256) = sn I + dvi ((sn (I + 1) - sn I) * (F : Int)) 256 := IntWalk.i64_in _ (by have := sn_bd (I + 1) (by omega); omega)
    have HQ := Lib.hid hq
    have c := fun w => t15 ((sn (I + 1) - sn I) * (F : Int)) 256 w (by omega) (by omega) (by omega) (by omega)
    have C := Lib.hid c
    clear hT h0 hI hF hq c hd
    go_enter Tryd.func52, Tryd.ntmps52
    go_wp2_with (first | (go_at_call 54; refine c54.mono ?_; rintro e w' ⟨rfl, h1⟩; subst h1) | (refine Go.Great.wpList_runTo rfl (some 3) rfl (.pointer (some ⟨w.heap.size + 1, 0, none⟩)) W2 ?ha ?_) | (refine wpList_store_row rfl 46 (.tmp 3) (.tmp 5) rfl (w.heap.size + 1) snv rfl rfl 46 zeros HS2.out sz46 hold one_snv ?_; rw [← H3.out]))
    case ha => rw [H2.out, ← HS1.out]; kernel_rfl
    go_quiet ((go_at_call 15; exact Calls.quiet_of (C.out _)))
    go_wp2
    go_ret
    exact ⟨ret_int HQ.out.symm, HB.out.drewN _⟩

theorem and_65535 (n : Int) : bits .and .i64 n 65535 = n % 65536 := by
  have h16 : (BitVec.ofInt 64 65535).toNat = 2 ^ 16 - 1 := by decide
  have key : (BitVec.ofInt 64 n &&& BitVec.ofInt 64 65535).toNat = (n % ((2 ^ 64 : Nat) : Int)).toNat % 2 ^ 16 := by
    rw [BitVec.toNat_and, BitVec.toNat_ofInt, h16, Nat.and_two_pow_sub_one_eq_mod]
  show IntKind.i64.wrap ((BitVec.ofInt 64 n &&& BitVec.ofInt 64 65535).toNat : Nat) = n % 65536
  rw [key, IntKind.wrap_i64]
  omega
/-- an angle's sine and cosine. -/
def sinT (a : Int) : Int := sin4 (a % 65536).toNat
def cosT (a : Int) : Int := sin4 ((a % 65536 + 16384) % 65536).toNat
set_option maxRecDepth 100000 in
theorem t33 (a : Int) (w : World) (hT : Tab w) :
    Calls Tryd.prog 33 #[.int .i64 a] w fun e w' => e = .returned (.tuple #[.int .i64 (sinT a), .int .i64 (cosT a)]) ∧ ∃ k, w' = w.drewN k := by
  have e1 := and_65535 a
  have e2 := and_65535 (a % 65536 + 16384)
  obtain ⟨m, hm⟩ : ∃ m : Nat, a % 65536 = (m : Int) := ⟨(a % 65536).toNat, by omega⟩
  obtain ⟨c, hc⟩ : ∃ c : Nat, (a % 65536 + 16384) % 65536 = (c : Int) := ⟨((a % 65536 + 16384) % 65536).toNat, by omega⟩
  have m1 : m ≤ 65535 := by omega
  have c1 : c ≤ 65535 := by omega
  have hs : sinT a = sin4 m := by unfold sinT; rw [hm]; rfl
  have hk : cosT a = sin4 c := by unfold cosT; rw [hc]; rfl
  rw [hm] at e1
  rw [hm] at hc
  rw [hm, hc] at e2
  have C : (Calls Tryd.prog 46 #[.int .i64 m] w fun e w' => e = .returned (.int .i64 (sin4 m)) ∧ ∃ k, w' = w.drewN k) := t46 m _ m1 hT
  have D : ∀ n, Hid (Calls Tryd.prog 46 #[.int .i64 c] (w.drewN n) fun e w' => e = .returned (.int .i64 (sin4 c)) ∧ ∃ k, w' = (w.drewN n).drewN k) := fun n => Lib.hid (t46 c _ c1 (hT.drewN n))
  generalize sin4 m = sm at *
  generalize sin4 c = sc at *
  have HC := Lib.hid C
  have HD := Lib.hid D
  have HS := Lib.hid hs
  have HK := Lib.hid hk
  have m2 : (m : Int) + 16384 ≤ 81919 := by omega
  clear C D hs hk hm hc hT
  go_enter Tryd.func33, Tryd.ntmps33
  go_wp2_with (first | (go_at_call 46; (with_reducible refine (HC.out).mono ?_); rintro e w' ⟨rfl, nq, rfl⟩) | (go_at_call 46; (with_reducible refine ((HD.out _).out).mono ?_); rintro e w' ⟨rfl, nr, rfl⟩))
  go_ret2
  exact ⟨by rw [HS.out, HK.out]; rfl, _, rfl⟩
set_option maxRecDepth 100000 in
theorem t47 (a : Nat) (w : World) (ha : a ≤ 65535) :
    Calls Tryd.prog 47 #[.int .i64 a] w fun e w' => e = .returned (.int .i64 (sin4 a)) ∧ Gr w w' := by
  obtain ⟨q, hq⟩ : ∃ q, q = a / 16384 := ⟨_, rfl⟩
  obtain ⟨r, hr⟩ : ∃ r, r = a % 16384 := ⟨_, rfl⟩
  have e1 : (a : Int) / 16384 = (q : Int) := by omega
  have e2 : (a : Int) - 16384 * (q : Int) = (r : Int) := by omega
  have hs : sin4 a = if q = 0 then qtr r else if q = 1 then qtr (16384 - r) else if q = 2 then -qtr r else -qtr (16384 - r) := by
    unfold sin4; rw [hq, hr]
  have c1 := t52 r w (by omega)
  have c2 := t52 (16384 - r) w (by omega)
  have b1 := qtr_bd r (by omega)
  have b2 := qtr_bd (16384 - r) (by omega)
  have e3 : (16384 : Int) - (r : Int) = ((16384 - r : Nat) : Int) := by omega
  have q3 : (q : Int) ≤ 3 := by omega
  generalize qtr (16384 - r) = y2 at *
  generalize 16384 - r = r2 at *
  generalize qtr r = y1 at *
  have HS := Lib.hid hs
  have C1 := Lib.hid c1
  have C2 := Lib.hid c2
  have hq4 : q = 0 ∨ q = 1 ∨ q = 2 ∨ q = 3 := by omega
  clear hs c1 c2 hq hr
  rcases hq4 with rfl | rfl | rfl | rfl
  · obtain rfl : a = r := by omega
    clear e2
    go_enter Tryd.func47, Tryd.ntmps47
    go_wp2_with (first | (go_at_call 52; (with_reducible refine (C1.out).mono ?_); rintro e w' ⟨rfl, hb⟩) | (go_at_call 52; (with_reducible refine (C2.out).mono ?_); rintro e w' ⟨rfl, hb⟩))
    go_ret
    exact ⟨ret_int HS.out.symm, hb⟩
  · have e2' : (a : Int) - 16384 = (r : Int) := by omega
    clear e2
    go_enter Tryd.func47, Tryd.ntmps47
    go_wp2_with (first | (go_at_call 52; (with_reducible refine (C1.out).mono ?_); rintro e w' ⟨rfl, hb⟩) | (go_at_call 52; (with_reducible refine (C2.out).mono ?_); rintro e w' ⟨rfl, hb⟩))
    go_ret
    exact ⟨ret_int HS.out.symm, hb⟩
  · have e2' : (a : Int) - 32768 = (r : Int) := by omega
    clear e2
    go_enter Tryd.func47, Tryd.ntmps47
    go_wp2_with (first | (go_at_call 52; (with_reducible refine (C1.out).mono ?_); rintro e w' ⟨rfl, hb⟩) | (go_at_call 52; (with_reducible refine (C2.out).mono ?_); rintro e w' ⟨rfl, hb⟩))
    go_ret
    exact ⟨ret_int HS.out.symm, hb⟩
  · have e2' : (a : Int) - 49152 = (r : Int) := by omega
    clear e2
    go_enter Tryd.func47, Tryd.ntmps47
    go_wp2_with (first | (go_at_call 52; (with_reducible refine (C1.out).mono ?_); rintro e w' ⟨rfl, hb⟩) | (go_at_call 52; (with_reducible refine (C2.out).mono ?_); rintro e w' ⟨rfl, hb⟩))
    go_ret
    exact ⟨ret_int HS.out.symm, hb⟩
set_option maxRecDepth 100000 in
theorem t34 (a : Int) (w : World) (h : -9223372036854775808 ≤ a) (h' : a ≤ 9223372036854775807) :
    Calls Tryd.prog 34 #[.int .i64 a] w fun e w' => e = .returned (.tuple #[.int .i64 (sinT a), .int .i64 (cosT a)]) ∧ Gr w w' := by
  obtain ⟨m, hm⟩ : ∃ m : Nat, a % 65536 = (m : Int) := ⟨(a % 65536).toNat, by omega⟩
  obtain ⟨c, hc⟩ : ∃ c : Nat, (a % 65536 + 16384) % 65536 = (c : Int) := ⟨((a % 65536 + 16384) % 65536).toNat, by omega⟩
  have m1 : m ≤ 65535 := by omega
  have c1 : c ≤ 65535 := by omega
  have hs : sinT a = sin4 m := by unfold sinT; rw [hm]; rfl
  have hk : cosT a = sin4 c := by unfold cosT; rw [hc]; rfl
  have ht : a.tmod 65536 < 0 ∧ a.tmod 65536 + 65536 = (m : Int) ∨ 0 ≤ a.tmod 65536 ∧ a.tmod 65536 = (m : Int) := by
    have := Int.tmod_eq_emod (a := a) (b := 65536)
    rw [show Int.natAbs 65536 = 65536 from rfl] at this
    split at this <;> omega
  rw [hm] at hc
  have C := t47 m w m1
  have D := fun W => t47 c W c1
  generalize sin4 m = sm at *
  generalize sin4 c = sc at *
  have HC := Lib.hid C
  have HD := Lib.hid D
  have HS := Lib.hid hs
  have HK := Lib.hid hk
  have m2 : (m : Int) + 16384 ≤ 81919 := by omega
  clear C D hs hk hm
  rcases ht with ⟨t1, t2⟩ | ⟨t1, t2⟩
  · skip
    go_enter Tryd.func34, Tryd.ntmps34
    go_wp2_with (first | (go_at_call 47; (with_reducible refine (HC.out).mono ?_); rintro e w' ⟨rfl, hb⟩) | (go_at_call 47; (with_reducible refine ((HD.out _)).mono ?_); rintro e w' ⟨rfl, hb2⟩))
    go_ret2
    exact ⟨by rw [HS.out, HK.out]; rfl, hb.trans hb2⟩
  · have HC' : Hid (Calls Tryd.prog 47 #[.int .i64 (a.tmod 65536)] w fun e w' => e = .returned (.int .i64 sm) ∧ Gr w w') := by rw [t2]; exact HC.out
    have hc' : (a.tmod 65536 + 16384) % 65536 = (c : Int) := by rw [t2]; exact hc
    have t3 : a.tmod 65536 + 16384 ≤ 81919 := by rw [t2]; exact m2
    have t4 : ¬ (a.tmod 65536 < 0) := by omega
    clear t2 hc m2 HC m1 t1
    go_enter Tryd.func34, Tryd.ntmps34
    go_wp2_with (first | (go_at_call 47; (with_reducible refine (HC'.out).mono ?_); rintro e w' ⟨rfl, hb⟩) | (go_at_call 47; (with_reducible refine ((HD.out _)).mono ?_); rintro e w' ⟨rfl, hb2⟩))
    go_ret2
    exact ⟨by rw [HS.out, HK.out]; rfl, hb.trans hb2⟩
end Go.Proofs.YtcbegpnmidhnjaaDoor
