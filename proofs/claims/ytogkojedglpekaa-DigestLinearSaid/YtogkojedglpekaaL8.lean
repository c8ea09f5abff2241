import Derived.Test.YtogkojedglpekaaProg
import Derived.WalkKit
import Derived.WalkLawsBesides
import Derived.Outline
import Derived.Lib.Walk
import Derived.Deep.QuietTactic
import Derived.BigQuiet
import Derived.RowKit3
import Derived.Deep.LoopGhost
import Derived.Great.Walk
import Derived.Great.BuildSlice
import Derived.Laws.Rows
import Derived.Laws.Tables
import Derived.Laws.CopyOwn
import Derived.Lib.Hide
import Derived.Handy
import Derived.Deep.Onto
import Derived.Laws.IdiomStrings
import Derived.Laws.BitsAllLaws
import Derived.IntWalk
import Derived.BigRegion
import Derived.Deep.RegionHeld3
import Derived.Test.YtogkojedglpekaaA1
import Derived.Test.YtogkojedglpekaaA2
import Derived.Test.YtogkojedglpekaaK1
import Derived.Test.YtogkojedglpekaaK2
import Derived.Test.YtogkojedglpekaaB2
import Derived.Test.YtogkojedglpekaaB3
import Derived.Test.YtogkojedglpekaaP3
import Derived.Test.YtogkojedglpekaaP4
import Derived.Test.YtogkojedglpekaaP5
import Derived.Test.YtogkojedglpekaaP6
import Derived.Test.YtogkojedglpekaaR1
import Derived.Test.YtogkojedglpekaaR2
import Derived.Test.YtogkojedglpekaaR3
import Derived.Test.YtogkojedglpekaaA10
import Derived.Test.YtogkojedglpekaaL7
namespace Go.Proofs.Ytogkojedglpekaa
open Go.RowKit
set_option maxHeartbeats 400000
set_option linter.unusedVariables false

/-- n zero bytes, as make lays them. -/
def zeroC (n : Nat) : Array Value := madeCells #[Value.int .u8 0] (n * 1)
theorem zeroC_get (n j : Nat) (h : j < n) : (zeroC n)[j]? = some (.int .u8 0) := by
  unfold zeroC madeCells
  simp [h, Nat.mod_one]
theorem make8 (n : Nat) (hn : n ≤ 140737488351232) (W : World) : (Instr.makeSlice 35 (.int .i64 (n : Int)) (.int .i64 (n : Int))).run Try.prog W = .ok (.slice (some ⟨W.heap.size, 0, none⟩) n n) (W.alloc (.cells (zeroC n) 5)) := by
  obtain ⟨i0, hi, hz0, hz1, hz2⟩ := info_parts info5
  have h := run_make (P := Try.prog) W 35 5 i0 (.int .u8 0) Try.underlying35 hi hz0 .i64 .i64 (n : Int) (n : Int) (by omega) (Int.le_refl _) (by rw [hz2]; omega) (by omega)
  rw [hz1, Int.toNat_natCast] at h
  exact h
/-- the first k of n bytes are the exclusive-or, the others are 0. -/
def Xs (W : World) (g n k : Nat) (s t : List UInt8) : Prop :=
  ∀ j, j < n → W.cell? ⟨g, j, none⟩ = some (.int .u8 (if j < k then ((s.getD j 0 ^^^ t.getD j 0).toNat : Int) else 0)) ∧ W.frozen? ⟨g, j, none⟩ = false
theorem Xs.keep {W W' : World} {g n k : Nat} {s t : List UInt8} (h : Xs W g n k s t) (hg : g < W.heap.size) (hb : Below W.heap.size W W') : Xs W' g n k s t := by
  intro j hj
  obtain ⟨h1, h2⟩ := h j hj
  exact ⟨(hb.cell (p := ⟨g, j, none⟩) hg).trans h1, (hb.frozen (p := ⟨g, j, none⟩) hg).trans h2⟩
theorem Xs.drewN {W : World} {g n k : Nat} {s t : List UInt8} (h : Xs W g n k s t) (q : Nat) : Xs (W.drewN q) g n k s t := h
theorem Xs.step {W : World} {g n k : Nat} {s t : List UInt8} (h : Xs W g n k s t) (hk : k < n) : Xs (W.setCell ⟨g, k, none⟩ (.int .u8 ((s.getD k 0 ^^^ t.getD k 0).toNat : Int))) g n (k + 1) s t := by
  intro j hj
  obtain ⟨h1, h2⟩ := h j hj
  have h3 := (h k hk).1
  refine ⟨?_, by simpa [go_sem] using h2⟩
  by_cases e : k = j
  · subst e
    simp [go_sem, h3]
  · rw [show (W.setCell ⟨g, k, none⟩ (.int .u8 ((s.getD k 0 ^^^ t.getD k 0).toNat : Int))).cell? ⟨g, j, none⟩ = W.cell? ⟨g, j, none⟩ by simp [go_sem], h1]
    by_cases e2 : j < k
    · rw [if_pos e2, if_pos (by omega)]
    · rw [if_neg e2, if_neg (by omega)]
theorem Xs.other {W : World} {g g' n k i : Nat} {s t : List UInt8} (h : Xs W g n k s t) (hg : g' ≠ g) (v : Value) : Xs (W.setCell ⟨g', i, none⟩ v) g n k s t := by
  intro j hj
  obtain ⟨h1, h2⟩ := h j hj
  refine ⟨?_, by simpa [go_sem] using h2⟩
  rw [← h1]
  simp [go_sem]
theorem Xs_new (W : World) (n : Nat) (s t : List UInt8) : Xs (W.alloc (.cells (zeroC n) 5)) W.heap.size n 0 s t := by
  intro j hj
  refine ⟨?_, ?_⟩
  · rw [cell_of_row _ _ j _ _ _ (Go.heap_alloc_last _ _), zeroC_get n j hj]
    rfl
  · simp [go_sem]
theorem conv_of {W : World} {g n k : Nat} {s t : List UInt8} (h : Xs W g n k s t) (l : List UInt8) (hl : l.length = n) (he : ∀ j (hj : j < l.length), (l[j].toNat : Int) = if j < k then ((s.getD j 0 ^^^ t.getD j 0).toNat : Int) else 0) :
    (convert 35 9 (.slice (some ⟨g, 0, none⟩) n n)).run Try.prog W = .ok (.string (mkS l)) W := by
  have := run_convert_bytes_back (P := Try.prog) W 35 9 5 ⟨g, 0, none⟩ n l Try.underlying35 Try.underlying5 Try.underlying9 (fun j hj => by
    rw [addz, (h j (by omega)).1, he j hj])
  rw [hl] at this
  exact this
/-- what stays over the last region. -/
abbrev SS (w : World) (gx gz n : Nat) (s t LX LZ : List UInt8) (W : World) : Prop :=
  Below w.heap.size w W ∧ gx < W.heap.size ∧ gz < W.heap.size ∧ (convert 35 9 (.slice (some ⟨gx, 0, none⟩) n n)).run Try.prog W = .ok (.string (mkS LX)) W ∧ (convert 35 9 (.slice (some ⟨gz, 0, none⟩) n n)).run Try.prog W = .ok (.string (mkS LZ)) W ∧ Xs W gx n n s t ∧ Xs W gz n 0 s t
theorem SS.keep {w W W' : World} {gx gz n : Nat} {s t LX LZ : List UInt8} (h : SS w gx gz n s t LX LZ W) (hb : Below W.heap.size W W')
    (hx : ∀ W g, Xs W g n n s t → (convert 35 9 (.slice (some ⟨g, 0, none⟩) n n)).run Try.prog W = .ok (.string (mkS LX)) W) (hz : ∀ W g, Xs W g n 0 s t → (convert 35 9 (.slice (some ⟨g, 0, none⟩) n n)).run Try.prog W = .ok (.string (mkS LZ)) W) : SS w gx gz n s t LX LZ W' := by
  obtain ⟨h1, h2, h3, h4, h5, h6, h7⟩ := h
  have q1 := h6.keep h2 hb
  have q2 := h7.keep h3 hb
  have := hb.size
  exact ⟨bel_trans h1 hb, by omega, by omega, hx _ _ q1, hz _ _ q2, q1, q2⟩
set_option maxHeartbeats 4000000 in
theorem l8 (s t : List UInt8) (w : World) (hs : s.length ≤ 140737488351232) (ht : t.length ≤ 140737488351232) : Calls Try.prog 8 #[.string (mkS s), .string (mkS t)] w fun e w' => e = .returned (.bool true) ∧ Below w.heap.size w w' := by
  have A0 := Lib.hid (fun W => c10 W)
  have hz : (mkS s).size = s.length := rfl
  have hzt : (mkS t).size = t.length := rfl
  obtain ⟨n, hn⟩ : ∃ n, min s.length t.length = n := ⟨_, rfl⟩
  have hn1 : n ≤ s.length := by omega
  have hn2 : n ≤ t.length := by omega
  have hnI : min (s.length : Int) (t.length : Int) = (n : Int) := by omega
  have hn0 : ¬ (n : Int) < 0 := by omega
  have hnm : (n : Int) ≤ 140737488351232 := by omega
  have hmk := make8 n (by omega)
  have hn1I : (n : Int) ≤ (s.length : Int) := by omega
  have hn2I : (n : Int) ≤ (t.length : Int) := by omega
  have hB0 := Lib.hid (show Below w.heap.size w ((w.alloc (.cells (zeroC n) 5)).alloc (.cells (zeroC n) 5)).drew from bel_dr (((Below.refl _ _).alloc (Nat.le_refl _) _).alloc (by simp) _) 1)
  have hX0 := Lib.hid (show Xs ((w.alloc (.cells (zeroC n) 5)).alloc (.cells (zeroC n) 5)).drew w.heap.size n 0 s t from Xs.drewN ((Xs_new w n s t).keep (by simp) ((Below.refl _ _).alloc (Nat.le_refl _) _)) 1)
  have hX1 := Lib.hid (show Xs ((w.alloc (.cells (zeroC n) 5)).alloc (.cells (zeroC n) 5)).drew (w.heap.size + 1) n 0 s t from Xs.drewN (by have := Xs_new (w.alloc (.cells (zeroC n) 5)) n s t; simpa using this) 1)
  have hsz := Lib.hid (show ((w.alloc (.cells (zeroC n) 5)).alloc (.cells (zeroC n) 5)).drew.heap.size = w.heap.size + 2 by simp)
  have HC := Lib.hid (crc_linear (s.take n) (t.take n) (by rw [List.length_take, List.length_take]; omega))
  have hlx : (List.zipWith (fun x y => x ^^^ y) (s.take n) (t.take n)).length = n := by simp; omega
  have hcx : ∀ W g, Xs W g n n s t → (convert 35 9 (.slice (some ⟨g, 0, none⟩) n n)).run Try.prog W = .ok (.string (mkS (List.zipWith (fun x y => x ^^^ y) (s.take n) (t.take n)))) W := fun W g h => conv_of h _ hlx (fun j hj => by
    rw [hlx] at hj
    rw [if_pos hj, List.getElem_zipWith, List.getElem_take, List.getElem_take, List.getD_eq_getElem?_getD, List.getD_eq_getElem?_getD, List.getElem?_eq_getElem (by omega), List.getElem?_eq_getElem (by omega)]
    rfl)
  have hcz : ∀ W g, Xs W g n 0 s t → (convert 35 9 (.slice (some ⟨g, 0, none⟩) n n)).run Try.prog W = .ok (.string (mkS (List.replicate n 0))) W := fun W g h => conv_of h _ (by simp) (fun j hj => by
    rw [if_neg (by omega)]
    simp)
  have HCX := Lib.hid hcx
  have HCZ := Lib.hid hcz
  have htl : (s.take n).length = n := by simp; omega
  have hx1 := mkS_take s n hn1
  have hx2 := mkS_take t n hn2
  have C1 := Lib.hid (fun W => c11 (s.take n) W (by rw [List.length_take]; omega))
  have C2 := Lib.hid (fun W => c11 (t.take n) W (by rw [List.length_take]; omega))
  have C3 := Lib.hid (fun W => c11 (List.zipWith (fun x y => x ^^^ y) (s.take n) (t.take n)) W (by rw [hlx]; omega))
  have C4 := Lib.hid (fun W => c11 (List.replicate n 0) W (by simp; omega))
  have hcc := HC.out
  rw [htl] at hcc
  have b1 := crc_lt (s.take n)
  have b2 := crc_lt (t.take n)
  have b3 := crc_lt (List.zipWith (fun x y => x ^^^ y) (s.take n) (t.take n))
  have b4 := crc_lt (List.replicate n 0)
  clear hcx hcz htl hlx HC hn
  generalize List.zipWith (fun x y => x ^^^ y) (s.take n) (t.take n) = LX at *
  generalize List.replicate n (0 : UInt8) = LZ at *
  have hsn := hn1
  have htn := hn2
  have GS := Lib.hid (fun k (h : k < n) => (show s.getD k 0 = s[k]'(by omega) from by rw [List.getD_eq_getElem?_getD, List.getElem?_eq_getElem (by omega)]; rfl))
  have GT := Lib.hid (fun k (h : k < n) => (show t.getD k 0 = t[k]'(by omega) from by rw [List.getD_eq_getElem?_getD, List.getElem?_eq_getElem (by omega)]; rfl))
  generalize s.take n = LS at *
  generalize t.take n = LT at *
  generalize crc LS = r1 at *
  generalize crc LT = r2 at *
  generalize crc LX = r3 at *
  generalize crc LZ = r4 at *
  have x1 := u32_xor_nat r1 r2 b1 b2
  have x2 := u32_xor_nat (r1 ^^^ r2) r3 (xor32 b1 b2) b3
  have x3 := u32_xor_nat (r1 ^^^ r2 ^^^ r3) r4 (xor32 (xor32 b1 b2) b3) b4
  rw [hcc] at x3
  generalize r1 ^^^ r2 ^^^ r3 = r123 at *
  generalize r1 ^^^ r2 = r12 at *
  simp only [Int.cast_ofNat_Int] at x3
  clear hcc b1 b2 b3 b4 hs ht
  go_enter Try.func8, Try.ntmps8
  go_wp2
  go_region
  · obtain ⟨gx, hgx⟩ : ∃ gx, w.heap.size = gx := ⟨_, rfl⟩
    obtain ⟨gz, hgz⟩ : ∃ gz, w.heap.size + 1 = gz := ⟨_, rfl⟩
    have X0 := hX0.out
    have Z0 := hX1.out
    have SZ := hsz.out
    have BB := hB0.out
    rw [hgz] at Z0 ⊢
    rw [hgx] at X0 ⊢
    have hlx : w.heap.size ≤ gx := by omega
    have hne : gx ≠ gz := by omega
    have hgxs : gx < ((w.alloc (.cells (zeroC n) 5)).alloc (.cells (zeroC n) 5)).drew.heap.size := by omega
    have hgzs : gz < ((w.alloc (.cells (zeroC n) 5)).alloc (.cells (zeroC n) 5)).drew.heap.size := by omega
    clear hX0 hX1 hsz hB0 hgx hgz SZ
    generalize ((w.alloc (.cells (zeroC n) 5)).alloc (.cells (zeroC n) 5)).drew = W0 at *
    clear hmk
    go_wp2
    go_loopw [19] (fun ii W => ∃ k : Nat, k ≤ n ∧ ii = .int .i64 (k : Int) ∧ Below w.heap.size w W ∧ gx < W.heap.size ∧ gz < W.heap.size ∧ Xs W gx n k s t ∧ Xs W gz n 0 s t) (fun ii _ => (n - (intOf ii).toNat))
    case atStart => exact ⟨0, by omega, rfl, BB, hgxs, hgzs, X0, Z0⟩
    case round =>
      clear BB hgxs hgzs X0 Z0
      obtain ⟨k, hk, rfl, BB, hgxs, hgzs, X0, Z0⟩ := hrel
      by_cases hlt : k < n
      · have hltI : (k : Int) < (n : Int) := by omega
        have kk : IntKind.i64.wrap ((k : Int) + 1) = (k : Int) + 1 := IntWalk.i64_in _ (by omega)
        have hks : k < s.length := by omega
        have hkt : k < t.length := by omega
        have hksI : (k : Int) < (s.length : Int) := by omega
        have hktI : (k : Int) < (t.length : Int) := by omega
        have hcs := getS s k hks
        have hct := getS t k hkt
        have e1 := GS.out k hlt
        have e2 := GT.out k hlt
        obtain ⟨x, hx⟩ : ∃ x, s[k] = x := ⟨_, rfl⟩
        obtain ⟨y, hy⟩ : ∃ y, t[k] = y := ⟨_, rfl⟩
        rw [hx] at hcs e1
        rw [hy] at hct e2
        have hxor := u8_xor_nat x.toNat y.toNat x.toNat_lt y.toNat_lt
        have XS := Lib.hid (X0.step hlt)
        have hcell := (X0 k hlt).1
        have hfro := (X0 k hlt).2
        rw [if_neg (by omega)] at hcell
        have ST := Lib.hid (fun W => show Xs W gx n k s t → Xs (W.setCell ⟨gx, k, none⟩ (.int .u8 ((x.toNat ^^^ y.toNat : Nat) : Int))) gx n (k + 1) s t from fun h => by
          have := h.step hlt
          rw [e1, e2, UInt8.toNat_xor] at this
          exact this)
        have HX := Lib.hid X0
        have HZ := Lib.hid Z0
        have HB := Lib.hid BB
        generalize x.toNat ^^^ y.toNat = v at *
        clear hx hy e1 e2 XS X0 Z0 BB
        go_wp2
        go_region
        have HB2 := Lib.hid (show Below w.heap.size w (wr.setCell ⟨gx, k, none⟩ (.int .u8 (v : Int))).drew from bel_dr (HB.out.setCell (p := ⟨gx, k, none⟩) hlx (.int .u8 (v : Int))) 1)
        have HX2 := Lib.hid (show Xs (wr.setCell ⟨gx, k, none⟩ (.int .u8 (v : Int))).drew gx n (k + 1) s t from Xs.drewN (ST.out wr HX.out) 1)
        have HZ2 := Lib.hid (show Xs (wr.setCell ⟨gx, k, none⟩ (.int .u8 (v : Int))).drew gz n 0 s t from Xs.drewN (HZ.out.other hne (.int .u8 (v : Int))) 1)
        have hz1 : gx < (wr.setCell ⟨gx, k, none⟩ (.int .u8 (v : Int))).drew.heap.size := by simpa using hgxs
        have hz2 : gz < (wr.setCell ⟨gx, k, none⟩ (.int .u8 (v : Int))).drew.heap.size := by simpa using hgzs
        generalize (wr.setCell ⟨gx, k, none⟩ (.int .u8 (v : Int))).drew = W2 at *
        clear hcell hfro HX HZ HB ST
        go_wp2
        go_roundw
        case rel => exact ⟨k + 1, by omega, by simp, HB2.out, hz1, hz2, HX2.out, HZ2.out⟩
        case measure => simp [intOf]; omega
      · obtain rfl : n = k := by omega
        have hltI := decide_eq_false (p := (n : Int) < (n : Int)) (by omega)
        have c1 := HCX.out wr gx X0
        have c2 := HCZ.out wr gz Z0
        have K0 := Lib.hid (⟨BB, hgxs, hgzs, c1, c2, X0, Z0⟩ : SS w gx gz n s t LX LZ wr)
        have K1 := Lib.hid (fun W W' (h : SS w gx gz n s t LX LZ W) (hb : Below W.heap.size W W') => SS.keep h hb HCX.out HCZ.out)
        clear c1 c2 X0 Z0 BB
        go_wp2
        have k0 : SS w gx gz n s t LX LZ wr.drew := K1.out _ _ K0.out (bel_dr (Below.refl _ _) 1)
        go_region_held3 (fun W => Below w.heap.size w W ∧ gx < W.heap.size ∧ gz < W.heap.size ∧ (convert 35 9 (.slice (some ⟨gx, 0, none⟩) n n)).run Try.prog W = .ok (.string (mkS LX)) W ∧ (convert 35 9 (.slice (some ⟨gz, 0, none⟩) n n)).run Try.prog W = .ok (.string (mkS LZ)) W ∧ Xs W gx n n s t ∧ Xs W gz n 0 s t)
          (first | exact k0 | assumption | exact K1.out _ _ (by assumption) hg)
          (first | (go_at_call 10; (with_reducible refine (A0.out _).mono ?_); rintro e w1 ⟨rfl, hg⟩) | (go_at_call 11; (with_reducible refine (C1.out _).mono ?_); rintro e w1 ⟨rfl, hg⟩) | (go_at_call 11; (with_reducible refine (C2.out _).mono ?_); rintro e w1 ⟨rfl, hg⟩) | (go_at_call 11; (with_reducible refine (C3.out _).mono ?_); rintro e w1 ⟨rfl, hg⟩) | (go_at_call 11; (with_reducible refine (C4.out _).mono ?_); rintro e w1 ⟨rfl, hg⟩))
        go_wp2
        go_ret
        exact ⟨rfl, And.left (by assumption)⟩

  · obtain ⟨gz, hgz⟩ : ∃ gz, w.heap.size = gz := ⟨_, rfl⟩
    obtain ⟨gx, hgx⟩ : ∃ gx, w.heap.size + 1 = gx := ⟨_, rfl⟩
    have Z0 := hX0.out
    have X0 := hX1.out
    have SZ := hsz.out
    have BB := hB0.out
    rw [hgx] at X0 ⊢
    rw [hgz] at Z0 ⊢
    have hlx : w.heap.size ≤ gx := by omega
    have hne : gx ≠ gz := by omega
    have hgxs : gx < ((w.alloc (.cells (zeroC n) 5)).alloc (.cells (zeroC n) 5)).drew.heap.size := by omega
    have hgzs : gz < ((w.alloc (.cells (zeroC n) 5)).alloc (.cells (zeroC n) 5)).drew.heap.size := by omega
    clear hX0 hX1 hsz hB0 hgx hgz SZ
    generalize ((w.alloc (.cells (zeroC n) 5)).alloc (.cells (zeroC n) 5)).drew = W0 at *
    clear hmk
    go_wp2
    go_loopw [19] (fun ii W => ∃ k : Nat, k ≤ n ∧ ii = .int .i64 (k : Int) ∧ Below w.heap.size w W ∧ gx < W.heap.size ∧ gz < W.heap.size ∧ Xs W gx n k s t ∧ Xs W gz n 0 s t) (fun ii _ => (n - (intOf ii).toNat))
    case atStart => exact ⟨0, by omega, rfl, BB, hgxs, hgzs, X0, Z0⟩
    case round =>
      clear BB hgxs hgzs X0 Z0
      obtain ⟨k, hk, rfl, BB, hgxs, hgzs, X0, Z0⟩ := hrel
      by_cases hlt : k < n
      · have hltI : (k : Int) < (n : Int) := by omega
        have kk : IntKind.i64.wrap ((k : Int) + 1) = (k : Int) + 1 := IntWalk.i64_in _ (by omega)
        have hks : k < s.length := by omega
        have hkt : k < t.length := by omega
        have hksI : (k : Int) < (s.length : Int) := by omega
        have hktI : (k : Int) < (t.length : Int) := by omega
        have hcs := getS s k hks
        have hct := getS t k hkt
        have e1 := GS.out k hlt
        have e2 := GT.out k hlt
        obtain ⟨x, hx⟩ : ∃ x, s[k] = x := ⟨_, rfl⟩
        obtain ⟨y, hy⟩ : ∃ y, t[k] = y := ⟨_, rfl⟩
        rw [hx] at hcs e1
        rw [hy] at hct e2
        have hxor := u8_xor_nat x.toNat y.toNat x.toNat_lt y.toNat_lt
        have XS := Lib.hid (X0.step hlt)
        have hcell := (X0 k hlt).1
        have hfro := (X0 k hlt).2
        rw [if_neg (by omega)] at hcell
        have ST := Lib.hid (fun W => show Xs W gx n k s t → Xs (W.setCell ⟨gx, k, none⟩ (.int .u8 ((x.toNat ^^^ y.toNat : Nat) : Int))) gx n (k + 1) s t from fun h => by
          have := h.step hlt
          rw [e1, e2, UInt8.toNat_xor] at this
          exact this)
        have HX := Lib.hid X0
        have HZ := Lib.hid Z0
        have HB := Lib.hid BB
        generalize x.toNat ^^^ y.toNat = v at *
        clear hx hy e1 e2 XS X0 Z0 BB
        go_wp2
        go_region
        have HB2 := Lib.hid (show Below w.heap.size w (wr.setCell ⟨gx, k, none⟩ (.int .u8 (v : Int))).drew from bel_dr (HB.out.setCell (p := ⟨gx, k, none⟩) hlx (.int .u8 (v : Int))) 1)
        have HX2 := Lib.hid (show Xs (wr.setCell ⟨gx, k, none⟩ (.int .u8 (v : Int))).drew gx n (k + 1) s t from Xs.drewN (ST.out wr HX.out) 1)
        have HZ2 := Lib.hid (show Xs (wr.setCell ⟨gx, k, none⟩ (.int .u8 (v : Int))).drew gz n 0 s t from Xs.drewN (HZ.out.other hne (.int .u8 (v : Int))) 1)
        have hz1 : gx < (wr.setCell ⟨gx, k, none⟩ (.int .u8 (v : Int))).drew.heap.size := by simpa using hgxs
        have hz2 : gz < (wr.setCell ⟨gx, k, none⟩ (.int .u8 (v : Int))).drew.heap.size := by simpa using hgzs
        generalize (wr.setCell ⟨gx, k, none⟩ (.int .u8 (v : Int))).drew = W2 at *
        clear hcell hfro HX HZ HB ST
        go_wp2
        go_roundw
        case rel => exact ⟨k + 1, by omega, by simp, HB2.out, hz1, hz2, HX2.out, HZ2.out⟩
        case measure => simp [intOf]; omega
      · obtain rfl : n = k := by omega
        have hltI := decide_eq_false (p := (n : Int) < (n : Int)) (by omega)
        have c1 := HCX.out wr gx X0
        have c2 := HCZ.out wr gz Z0
        have K0 := Lib.hid (⟨BB, hgxs, hgzs, c1, c2, X0, Z0⟩ : SS w gx gz n s t LX LZ wr)
        have K1 := Lib.hid (fun W W' (h : SS w gx gz n s t LX LZ W) (hb : Below W.heap.size W W') => SS.keep h hb HCX.out HCZ.out)
        clear c1 c2 X0 Z0 BB
        go_wp2
        have k0 : SS w gx gz n s t LX LZ wr.drew := K1.out _ _ K0.out (bel_dr (Below.refl _ _) 1)
        go_region_held3 (fun W => Below w.heap.size w W ∧ gx < W.heap.size ∧ gz < W.heap.size ∧ (convert 35 9 (.slice (some ⟨gx, 0, none⟩) n n)).run Try.prog W = .ok (.string (mkS LX)) W ∧ (convert 35 9 (.slice (some ⟨gz, 0, none⟩) n n)).run Try.prog W = .ok (.string (mkS LZ)) W ∧ Xs W gx n n s t ∧ Xs W gz n 0 s t)
          (first | exact k0 | assumption | exact K1.out _ _ (by assumption) hg)
          (first | (go_at_call 10; (with_reducible refine (A0.out _).mono ?_); rintro e w1 ⟨rfl, hg⟩) | (go_at_call 11; (with_reducible refine (C1.out _).mono ?_); rintro e w1 ⟨rfl, hg⟩) | (go_at_call 11; (with_reducible refine (C2.out _).mono ?_); rintro e w1 ⟨rfl, hg⟩) | (go_at_call 11; (with_reducible refine (C3.out _).mono ?_); rintro e w1 ⟨rfl, hg⟩) | (go_at_call 11; (with_reducible refine (C4.out _).mono ?_); rintro e w1 ⟨rfl, hg⟩))
        go_wp2
        go_ret
        exact ⟨rfl, And.left (by assumption)⟩



end Go.Proofs.Ytogkojedglpekaa
