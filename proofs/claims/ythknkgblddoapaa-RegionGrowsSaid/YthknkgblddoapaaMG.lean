import Derived.Test.YthknkgblddoapaaProg
import Derived.WalkKit
import Derived.WalkLawsBesides
import Derived.Outline
import Derived.Lib.Walk
import Derived.Deep.QuietTactic
import Derived.BigQuiet
import Derived.RowKit3
import Derived.Deep.LoopGhost
import Derived.Great.Walk
import Derived.Great.BuildSlice
import Derived.Laws.Rows
import Derived.Laws.Tables
import Derived.Laws.CopyOwn
import Derived.Lib.Hide
import Derived.Handy
import Derived.Deep.Onto
import Derived.Deep.RegionLaw
import Derived.Deep.RegionHeld3
import Derived.Test.YthknkgblddoapaaMA
import Derived.Test.YthknkgblddoapaaMC
import Derived.Test.YthknkgblddoapaaME
import Derived.Test.YthknkgblddoapaaMB
import Derived.Test.YthknkgblddoapaaMD
import Derived.Test.YthknkgblddoapaaMF
namespace Go.Proofs.Ythknkgblddoapaa

section
open Go.RowKit
set_option maxHeartbeats 400000
set_option linter.unusedVariables false

/-- an append of one row of one's own to another. -/
theorem run_append_rows {P : Program} (w : World) (base base2 : Nat) (t ty e : TypeId) (i : TypeInfo) (z : Value) (size bytes : Nat) (ht : P.underlying t = some (.slice e)) (hi : P.info? e = some i) (hz : i.zero = some z)
    (hsize : i.size = size) (hby : i.bytes = bytes) (hzs : z.cells.size = size) (hsz : 0 < size)
    (v : Value) (n : Nat) (xs : List Value) (hown : w.ownsRow base e size v n xs) (x : Value) (m : Nat) (ys : List Value) (hx : w.ownsRow base2 e size x m ys) (h1 : ∀ u ∈ ys, u.oneCell' = true)
    (h63 : n + m ≤ maxLen) (hbytes : (n + m) * bytes ≤ 140737488355328) (hbase : base ≤ w.heap.size) :
    ∃ v' w', (Builtin.append_ #[t, t] ty #[v, x]).run P w = .ok v' w' ∧ w'.ownsRow base e size v' (n + m) (xs ++ ys) ∧ w.grownBy w' v.ownBlock ∧ Moved w v v' := by
  have hx0 := hx
  obtain ⟨hlen, hcase⟩ := hx
  rcases hcase with ⟨rfl, rfl⟩ | ⟨g, cap, cur, rfl, _⟩
  · obtain rfl : ys = [] := List.eq_nil_of_length_eq_zero (by simpa using hlen)
    have hrun : (Builtin.append_ #[t, t] ty #[v, .slice none 0 0]).run P w = .ok v w := by
      rcases hown.2 with ⟨rfl, rfl⟩ | ⟨g', cap', cur', rfl, _, _, hnc, _⟩
      · simp [Builtin.append_, run_underlying ht, sizeOf, typeInfo, hi, Builtin.lenOf, Builtin.firstCells]
      · simp [Builtin.append_, run_underlying ht, sizeOf, typeInfo, hi, Builtin.lenOf, Builtin.firstCells, hnc, storeCells]
    exact ⟨v, w, hrun, by simpa using hown, ⟨rfl, rfl, rfl, Nat.le_refl _, fun _ _ _ => rfl⟩, Or.inl rfl⟩
  · refine run_append_two w base t ty e i z size bytes ht hi hz hsize hby hzs hsz v n xs hown ⟨g, 0, none⟩ m cap ys hlen (fun j u hj => ?_) h1 h63 hbytes hbase
    exact hx0.cells rfl j u hj
theorem wpList_append_rows {P : Program} {ops : Array Oper} {rest : List Oper} {o : Oper} {act : Act} {Q : Exit → Act → World → Prop} (w : World) (hgd : o.guard = none) (s x : Operand) (t : TypeId)
    (ho : o.op = Op.call { callee := Callee.builtin Builtin.append, args := #[s, x], argTypes := #[t, t] })
    (base base2 : Nat) (e : TypeId) (i : TypeInfo) (z : Value) (size bytes : Nat) (ht : P.underlying t = some (.slice e)) (hi : P.info? e = some i) (hz : i.zero = some z)
    (hsize : i.size = size) (hby : i.bytes = bytes) (hzs : z.cells.size = size) (hsz : 0 < size)
    (v : Value) (n : Nat) (xs : List Value) (hs : act.eval s = v) (hown : w.ownsRow base e size v n xs)
    (u : Value) (m : Nat) (ys : List Value) (hu : act.eval x = u) (hx : w.ownsRow base2 e size u m ys) (h1 : ∀ u ∈ ys, u.oneCell' = true)
    (h63 : n + m ≤ maxLen) (hbytes : (n + m) * bytes ≤ 140737488355328) (hbase : base ≤ w.heap.size)
    (hK : ∀ v' w', w'.ownsRow base e size v' (n + m) (xs ++ ys) → w.grownBy w' v.ownBlock → Moved w v v' → wpList P ops Q rest (act.put o.dst v') w') : wpList P ops Q (o :: rest) act w :=
  wpList_plain hgd fun K hK' => by
    obtain ⟨v', w', hrun, r1, r2, r3⟩ := run_append_rows (P := P) w base base2 t o.type e i z size bytes ht hi hz hsize hby hzs hsz v n xs hown u m ys hx h1 h63 hbytes hbase
    unfold Oper.wp
    simp [execOp, ho, resolve, invoke, builtin, hs, hu, hrun, Result.andThen]
    exact hK' _ _ (hK v' w' r1 r2 r3)
theorem cellsS_one (l : List Sd) : ∀ u ∈ cellsS l, u.oneCell' = true := by
  intro u hu
  unfold cellsS at hu
  obtain ⟨s, _, h⟩ := List.mem_flatMap.1 hu
  simp only [List.mem_cons, List.not_mem_nil, or_false] at h
  rcases h with rfl | rfl | rfl | rfl | rfl <;> rfl
theorem cellsR_one (l : List Rc) : ∀ u ∈ cellsR l, u.oneCell' = true := by
  intro u hu
  unfold cellsR at hu
  obtain ⟨s, _, h⟩ := List.mem_flatMap.1 hu
  simp only [List.mem_cons, List.not_mem_nil, or_false] at h
  rcases h with rfl | rfl | rfl | rfl <;> rfl
end

section
open Go.RowKit
set_option maxHeartbeats 400000
set_option linter.unusedVariables false

theorem rowsF_len (l : List Sd) : (rowsF l).length ≤ l.length * 2 := by
  have h1 := rows_len l
  unfold rowsF Lib.compact Lib.compactUpTo
  rw [List.length_map]
  refine Nat.le_trans (List.length_filter_le _ _) ?_
  rw [List.length_range, mergeI_len, h1]
  exact Nat.le_refl _
theorem flat_mem {bs : List Band} {t : Rc} (h : t ∈ flat bs) : ∃ b ∈ bs, t.y = b.y ∧ t.h = b.h := by
  obtain ⟨b, hb, h⟩ := List.mem_flatMap.1 h
  obtain ⟨r, _, rfl⟩ := List.mem_map.1 h
  exact ⟨b, hb, rfl, rfl⟩
theorem bflat_len (y h : Int) (R : List (Int × Int)) : (Band.flat ⟨y, h, R⟩).length = R.length := by unfold Band.flat; simp
theorem getD_drop (l : List Rc) (n k : Nat) : (l.drop n).getD k Rc.zero = l.getD (n + k) Rc.zero := by
  rw [List.getD_eq_getElem?_getD, List.getD_eq_getElem?_getD, List.getElem?_drop]
theorem argR_drop {W : World} {base g N cap la : Nat} {l : List Rc} (h : W.ownsRow base 33 4 (.slice (some ⟨g, 0, none⟩) N cap) N (cellsR l)) (hN : l.length = N) (hla : la ≤ N) : argR W W.heap.size (.slice (some ⟨g, la * 4, none⟩) (N - la) (cap - la)) (l.drop la) := by
  refine ⟨some ⟨g, la * 4, none⟩, cap - la, by rw [List.length_drop, hN], fun hl => ?_⟩
  refine ⟨g, la * 4, rfl, (h.lt g rfl).2, fun k hk => ?_⟩
  rw [List.length_drop, hN] at hk
  obtain ⟨f0, f1, f2, f3⟩ := cellsR_at l (la + k) (by omega)
  rw [getD_drop, show la * 4 + k * 4 = (la + k) * 4 by omega]
  exact ⟨(h.cellAt _ (by omega)).trans f0, (h.cellAt _ (by omega)).trans f1, (h.cellAt _ (by omega)).trans f2, (h.cellAt _ (by omega)).trans f3⟩
theorem argI_own {W : World} {base : Nat} {v : Value} {l : List Int} (h : W.ownsRow base 3 1 v l.length (l.map (.int .i64))) : ∃ ao cap, v = .slice ao l.length cap ∧ (0 < l.length → ∃ g, ao = some ⟨g, 0, none⟩ ∧ g < W.heap.size ∧ ∀ k, k < l.length → W.cell? ⟨g, k, none⟩ = some (.int .i64 (l.getD k 0))) := by
  obtain ⟨ao, cap, rfl, hao, _⟩ := row_formS h
  refine ⟨ao, cap, rfl, fun hl => ?_⟩
  obtain ⟨g, rfl⟩ := hao hl
  refine ⟨g, rfl, (h.lt g rfl).2, fun k hk => ?_⟩
  rw [h.cellAt k (by omega), List.getElem?_map, List.getD_eq_getElem?_getD, List.getElem?_eq_getElem hk]
  rfl
set_option maxHeartbeats 8000000 in
set_option maxRecDepth 100000 in
theorem c44 (u v : Value) (A0 B0 : List Rc) (kf : Nat) (keep : Bool → Bool → Bool) (how : Int) (w : World) (ga : argR w w.heap.size u A0) (gb : argR w w.heap.size v B0) (cu : capOk u) (cv : capOk v)
    (ek : ∀ args w, (callFunc kf args).run Try.prog w = .ok (.enter kf args) w) (hk : ∀ a b W, Calls Try.prog kf #[.bool a, .bool b] W fun e w' => e = .returned (.bool (keep a b)) ∧ W = w')
    (hk0 : keep false false = false) (hh : ∀ A B p q, keep (setB A p q) (setB B p q) = insideF how A B p q) :
    Calls Try.prog 44 #[u, v, .func (.func kf) #[] #[]] w fun e w' => ∃ x, e = .returned x ∧ Below w.heap.size w w' ∧ w'.ownsRow w.heap.size 33 4 x (buildF (partF A0) (partF B0) how).length (cellsR (buildF (partF A0) (partF B0) how)) := by
  have HK := Lib.hid hk
  have HH := Lib.hid hh
  have HU := Lib.hid cu
  have HV := Lib.hid cv
  have HA := Lib.hid ga
  have HB := Lib.hid gb
  have HK0 := Lib.hid hk0
  clear hk hh cu cv ga gb hk0
  have lA := partF_len A0
  have lB := partF_len B0
  have nA := Lib.hid (fun t (ht : t ∈ partF A0) => part_ne ht)
  have nB := Lib.hid (fun t (ht : t ∈ partF B0) => part_ne ht)
  have C1 := Lib.hid (p49 u A0 w HA.out HU.out)
  have C2 := Lib.hid (fun W (hW : Below w.heap.size w W) => p49 v B0 W ((HB.out.below hW).mono hW.size) HV.out)
  clear HA HB HU HV
  generalize partF A0 = A at *
  generalize partF B0 = B at *
  go_enter Try.func44, Try.ntmps44
  go_wp2_with (go_at_call 49; fail)
  refine C1.out.mono ?_
  rintro e w1 ⟨x1, rfl, hn1, own1⟩
  go_wp2_with (go_at_call 67; fail)
  refine (p67 x1 A 0 w1 (argR_own own1) nA.out (by omega)).mono ?_
  rintro e w2 ⟨x2, rfl, hn2, own2⟩
  have hw2 : Below w.heap.size w w2 := hn1.trans (hn2.mono hn1.size)
  go_wp2_with (go_at_call 49; fail)
  refine (C2.out w2 hw2).mono ?_
  rintro e w3 ⟨x3, rfl, hn3, own3⟩
  go_wp2_with (go_at_call 67; fail)
  refine (p67 x3 B 1 w3 (argR_own own3) nB.out (by omega)).mono ?_
  rintro e w4 ⟨x4, rfl, hn4, own4⟩
  have hw4 : Below w.heap.size w w4 := (hw2.trans (hn3.mono hw2.size)).trans (hn4.mono (by have := hw2.size; have := hn3.size; omega))
  have own2' : w4.ownsRow w.heap.size 63 5 x2 (A.length * 2) (cellsS (sidesF A 0)) := (ownsRow_below (ownsRow_below own2 hn3) hn4).mono hn1.size
  clear own1 own2 own3 hn1 hn2 hn3 hn4
  obtain ⟨i0, hi, hz0', hzs, hzb⟩ := info_parts info63
  go_wp2_with (at_builtin; refine wpList_append_rows _ rfl _ _ 59 rfl w.heap.size w3.heap.size 63 i0 (.agg #[.int .i64 0, .int .i64 0, .int .i64 0, .int .i64 0, .int .i64 0]) 5 40 Try.underlying59 hi hz0' hzs hzb rfl (by decide) _ _ _ rfl own2' _ _ _ rfl own4 (cellsS_one _) (by unfold maxLen; omega) (by omega) hw4.size ?_)
  intro x5 w5 own5 hg5 _
  have hn5 : Below w.heap.size w w5 := hw4.grown hg5 hw4.size (fun g e => (own2'.lt g e).1)
  rw [← cellsS_append] at own5
  have lS : (sidesF A 0 ++ sidesF B 1).length = A.length * 2 + B.length * 2 := by rw [List.length_append, sides_len, sides_len]
  rw [← lS] at own5
  clear hg5 own2' own4 hw4 hw2
  have HS := Lib.hid lS
  obtain ⟨S0, hS0⟩ : ∃ S0, sidesF A 0 ++ sidesF B 1 = S0 := ⟨_, rfl⟩
  rw [hS0] at own5 lS
  have HS0 := Lib.hid hS0
  clear hS0 HS
  have lS2 : S0.length ≤ 1024 := by omega
  go_wp2_with (go_at_call 68; fail)
  refine (p68 x5 S0 w.heap.size w5 own5 (by omega)).mono ?_
  rintro e w6 ⟨rfl, S, hp, hso, own6, hg6⟩
  have hn6 : Below w.heap.size w w6 := hn5.grown hg6 hn5.size (fun g e => (own5.lt g e).1)
  clear hg6 own5 hn5
  have lS3 : S.length = S0.length := hp.length_eq
  rw [← lS3] at own6 lS2
  have HP : Hid (S.Perm (sidesF A 0 ++ sidesF B 1)) := Lib.hid (by rw [HS0.out]; exact hp)
  have HSO := Lib.hid hso
  clear hp hso lS lS3 HS0
  go_wp2_with (go_at_call 71; fail)
  refine (p71 x5 S w6 (argS_own own6) (by omega)).mono ?_
  rintro e w7 ⟨x7, rfl, hn7', own7⟩
  have own6' := ownsRow_below own6 hn7'
  have hn7 : Below w.heap.size w w7 := hn6.trans (hn7'.mono hn6.size)
  have hw6 := hn6.size
  clear own6 hn6 hn7'
  have hyl := rowsF_len S
  rw [rowsF_eq HP.out] at own7 hyl
  have YB := Lib.hid (ys_bd nA.out nB.out)
  have YA := Lib.hid (sorted_asc (coordsY A ++ coordsY B))
  obtain ⟨YS, hYS⟩ : ∃ YS, sortedF (coordsY A ++ coordsY B) = YS := ⟨_, rfl⟩
  rw [hYS] at own7
  obtain ⟨ry, cy, rfl, hY⟩ := argI_own own7
  obtain ⟨n, hn⟩ : ∃ n, YS.length = n := ⟨_, rfl⟩
  rw [hYS] at YB YA
  rw [hYS, hn] at hyl
  have hn2 : n ≤ 2048 := by omega
  obtain ⟨cx, cy', _⟩ := inside_cells A B how
  rw [hYS] at cy'
  have hX := sorted_asc (coordsX A ++ coordsX B)
  have wA : ∀ t ∈ A, 1 ≤ t.w := fun t ht => by have := ne_ways t (nA.out t ht); omega
  have wB : ∀ t ∈ B, 1 ≤ t.w := fun t ht => by have := ne_ways t (nB.out t ht); omega
  have RE := Lib.hid (fun y => row_eq HK0.out (HH.out A B) wA wB HP.out HSO.out y)
  have RO := Lib.hid (fun y => (rowF_ok hX cx y).1)
  have hfin : Hid (buildF A B how = flat (bandsF (insideF how A B) (sortedF (coordsX A ++ coordsX B)) YS (n - 1))) := Lib.hid (by unfold buildF cellsF; rw [hYS, hn])
  generalize sortedF (coordsX A ++ coordsX B) = XS at *
  generalize insideF how A B = T at *
  have OK := Lib.hid (bandsF_ok hX YA.out cx cy')
  have BD := Lib.hid (bands_bd (T := T) (xs := XS) YB.out)
  have SD := Lib.hid (sd_of HP.out nA.out nB.out)
  rw [hn] at hY OK BD YB own7 ⊢
  have HN := Lib.hid hn
  have HY := Lib.hid hY
  have AS : Hid (argS w7 w7.heap.size x5 S) := Lib.hid (argS_own own6')
  clear hn hY hX cx cy' wA wB HH HP HSO HK0 nA nB C1 C2 hYS own6' own7
  have hw7 : w.heap.size ≤ w7.heap.size := hn7.size
  go_wp2
  go_loopw [9, 10, 11] (fun l la i W => ∃ j : Nat, j ≤ n - 1 ∧ i = .int .i64 ((j : Int) + 1) ∧ la = .int .i64 (lastF (bandsF T XS YS j) : Nat) ∧ W.ownsRow w7.heap.size 33 4 l (flat (bandsF T XS YS j)).length (cellsR (flat (bandsF T XS YS j))) ∧ Below w7.heap.size w7 W ∧ (flat (bandsF T XS YS j)).length ≤ 1024 * j) (fun _ _ i _ => (n - (intOf i).toNat))
  case atStart => exact ⟨0, by omega, rfl, rfl, World.ownsRow_nil _ _ _ _, Below.refl _ _, by simp [bandsF, flat]⟩
  case round =>
    obtain ⟨j, hj, rfl, rfl, hown, hnx, hlen⟩ := hrel
    by_cases hlt : j + 1 < n
    · obtain ⟨gy, rfl, hgy, hc⟩ := HY.out (by omega)
      have y0 := (hnx.cell (p := ⟨gy, j, none⟩) hgy).trans (hc j (by omega))
      have y1 := (hnx.cell (p := ⟨gy, j + 1, none⟩) hgy).trans (hc (j + 1) hlt)
      have hyy := asc_step YA.out (i := j) (by rw [HN.out]; exact hlt)
      have yb0 := YB.out j (by omega)
      have yb1 := YB.out (j + 1) hlt
      have hstep : Hid (bandsF T XS YS (j + 1) = bandStep (bandsF T XS YS j) (rowF T XS (YS.getD j 0)) (YS.getD j 0) (YS.getD (j + 1) 0)) := Lib.hid rfl
      have hbl := scan_len keep (S.filter (Sd.on (YS.getD j 0))) sc0
      have hfl : (S.filter (Sd.on (YS.getD j 0))).length ≤ S.length := List.length_filter_le _ _
      have cb := fun W (hW : Below w7.heap.size w7 W) => p72 x5 S (YS.getD j 0) (YS.getD (j + 1) 0) kf keep W ((AS.out.below hW).mono hW.size) (by omega) SD.out (by omega) (by omega) ek HK.out
      have hbo := OK.out j (by omega)
      have hbd := BD.out j (by omega)
      have hro := RO.out (YS.getD j 0)
      rw [RE.out] at hbl
      simp only [RE.out] at cb
      clear hc
      generalize YS.getD j 0 = y at *
      generalize YS.getD (j + 1) 0 = y' at *
      generalize rowF T XS y = R at *
      generalize bandsF T XS YS j = bs at *
      have hRl : R.length ≤ 1024 := by have : sc0.band.length = 0 := rfl; omega
      have CB := Lib.hid cb
      have HBO := Lib.hid hbo
      have HBD := Lib.hid hbd
      have HRO := Lib.hid hro
      clear cb hbo hbd hro hbl hfl
      have k0 : IntKind.i64.wrap ((j : Int) + 1 - 1) = (j : Int) := by rw [show (j : Int) + 1 - 1 = j by omega]; exact IntWalk.i64_in _ (by omega)
      have k1 : IntKind.i64.wrap ((j : Int) + 1 + 1) = (j : Int) + 1 + 1 := IntWalk.i64_in _ (by omega)
      have kt : ((j : Int) + 1).toNat = j + 1 := by omega
      have kn : (0 : Int) ≤ (j : Int) + 1 := by omega
      have kp : ∀ W w1 : World, (fun W => Below wr.heap.size wr W ∧ W.cell? ⟨gy, j, none⟩ = some (.int .i64 y) ∧ W.cell? ⟨gy, j + 1, none⟩ = some (.int .i64 y')) W → Below W.heap.size W w1 → (fun W => Below wr.heap.size wr W ∧ W.cell? ⟨gy, j, none⟩ = some (.int .i64 y) ∧ W.cell? ⟨gy, j + 1, none⟩ = some (.int .i64 y')) w1 := by
        intro W w1 hS hg
        obtain ⟨s0, s1, s2⟩ := hS
        have hz := s0.size
        have hz2 := hnx.size
        exact ⟨s0.trans (hg.mono s0.size), (hg.cell (by (try dsimp only); omega)).trans s1, (hg.cell (by (try dsimp only); omega)).trans s2⟩
      have KP := Lib.hid kp
      clear kp
      have hB0 : Below wr.heap.size wr wr.drew := (Below.refl _ _).drew
      have hlt' : (j : Int) + 1 < (n : Int) := by omega
      have hjn : (j : Int) < (n : Int) := by omega
      have hjn2 : j < n := by omega
      have k00 : IntKind.i64.wrap (j : Int) = (j : Int) := IntWalk.i64_in _ (by omega)
      go_wp2
      go_region_held3 (fun W => Below wr.heap.size wr W ∧ W.cell? ⟨gy, j, none⟩ = some (.int .i64 y) ∧ W.cell? ⟨gy, j + 1, none⟩ = some (.int .i64 y'))
        (first | exact ⟨hB0, y0, y1⟩ | assumption | exact KP.out _ _ (by assumption) hg | exact KP.out _ _ (by assumption) (Gr.drewN (Gr.refl _) _).1)
        (first | (go_at_call 72; (with_reducible refine (CB.out _ (hnx.trans (Below.mono (And.left (by assumption)) hnx.size))).mono ?_); rintro e w1 ⟨bv, rfl, hg, hownb⟩))
      have hbw : Below wr.heap.size wr w1 := by first | exact And.left (by assumption) | assumption
      have hown1 := ownsRow_below hown hbw
      have hnx1 : Below w7.heap.size w7 w1 := hnx.trans (hbw.mono hnx.size)
      have hwb : wr.heap.size ≤ w1.heap.size := hbw.size
      obtain ⟨ab, cab, rfl, hab, hcb, _⟩ := row_formS hownb
      clear KP hB0 CB
      by_cases hR0 : R.length = 0
      · have hRn := List.eq_nil_of_length_eq_zero hR0
        subst hRn
        have hst := Lib.hid (show bandStep bs [] y y' = bs from rfl)
        go_wp2
        go_roundw
        case rel => exact ⟨j + 1, by omega, by simp, by rw [hstep.out, hst.out], by rw [hstep.out, hst.out]; exact hown1, hnx1, by rw [hstep.out, hst.out]; omega⟩
        case measure => simp [intOf]; omega
      · have hRp : 0 < R.length := by omega
        have hRne : R ≠ [] := fun e => hR0 (by rw [e]; rfl)
        have hways := step_ways HBO.out.1.2 hyy hRne HRO.out
        have hla := lastF_le bs
        obtain ⟨N, hN⟩ : ∃ N, (flat bs).length = N := ⟨_, rfl⟩
        obtain ⟨la, hlaE⟩ : ∃ la, lastF bs = la := ⟨_, rfl⟩
        have HLA := Lib.hid hlaE
        have HNN := Lib.hid hN
        rw [hN] at hown1 hla hlen
        rw [hlaE] at hla hways ⊢
        have hown0 := hown
        clear hN hlaE hown
        have hown2 := hown1
        have HBA : Hid (argR w1 w1.heap.size (.slice ab R.length cab) (Band.flat ⟨y, y' - y, R⟩)) := Lib.hid (argR_own (by rw [bflat_len]; exact hownb))
        have HMA : Hid (∀ t ∈ (flat bs).drop la, IntKind.i64.wrap (t.y + t.h) = t.y + t.h) := Lib.hid (fun t ht => by
          obtain ⟨b, hb, e1, e2⟩ := flat_mem (List.mem_of_mem_drop ht)
          have := HBD.out b hb
          exact IntWalk.i64_in _ (by omega))
        obtain ⟨_, hcase⟩ := hown1
        have hla2 : 0 < N → la < N := fun h0 => by
          rcases List.eq_nil_or_concat bs with rfl | ⟨pre, b, rfl⟩
          · have : (flat []).length = N := HNN.out
            simp [flat] at this
            omega
          · have e1 := HLA.out
            have e2 := HNN.out
            rw [List.concat_eq_append] at e1 e2
            rw [lastF_snoc] at e1
            rw [flat_snocB, List.length_append] at e2
            have hb := HBO.out.1.2 b (by rw [List.concat_eq_append]; exact List.mem_append_right _ (List.mem_singleton.2 rfl))
            obtain ⟨t, m, em, _⟩ := flat_ne hb
            rw [em] at e2
            simp at e2
            omega
        obtain ⟨i1, hi1, hz1', hzs1, hzb1⟩ := info_parts info23
        rcases hways with ⟨hj1, pre, b, hbs, hby, hbr, hst⟩ | ⟨hj0, hst⟩
        · subst hbs
          have HJ := Lib.hid hj1
          have HST := Lib.hid hst
          have ela := HLA.out
          rw [lastF_snoc] at ela
          have hbl : b.flat.length = R.length := by unfold Band.flat; rw [List.length_map, hbr]
          have eN := HNN.out
          rw [flat_snocB, List.length_append, hbl, ela] at eN
          have hbb := HBD.out b (List.mem_append_right _ (List.mem_singleton.2 rfl))
          have hfh : Hid (∀ k, k < R.length → (b.flat.getD k Rc.zero).h = b.h) := Lib.hid (fun k hk => by
            have hm := getR_mem (L := b.flat) (k := k) (by rw [hbl]; exact hk)
            obtain ⟨r, _, e⟩ := List.mem_map.1 hm
            rw [← e])
          rcases hcase with ⟨rfl, rfl⟩ | ⟨g, cl, cur, rfl, hgb, hgc, hNc, hcm, _, _⟩
          · omega
          · have hlc : la < cl := by omega
            have HARG : Hid (argR w1 w1.heap.size (.slice (some ⟨g, la * 4, none⟩) (N - la) (cl - la)) ((flat (pre ++ [b])).drop la)) := Lib.hid (argR_drop hown2 HNN.out (by omega))
            have c39' := c39 _ _ ((flat (pre ++ [b])).drop la) (Band.flat ⟨y, y' - y, R⟩) w1 (by rw [List.length_drop, HNN.out]; omega) (by rw [bflat_len]; omega) (by rw [bflat_len]; exact hRp) HARG.out HBA.out HMA.out
            rw [HJ.out] at c39'
            have C39 := Lib.hid c39'
            obtain ⟨gb, rfl⟩ := hab hRp
            have hgbw := (hownb.lt gb rfl).1
            have hgw := (World.ownsRow.lt hown0 g rfl).2
            have hggb : g ≠ gb := by
              have : wr.heap.size ≤ gb := hgbw
              omega
            have HBL := Lib.hid hbl
            have HEA := Lib.hid ela
            have own0 : w1.ownsRow w7.heap.size 33 4 (.slice (some ⟨g, 0, none⟩) N cl) N (cellsR (updR (flat pre) b.flat (y' - y) 0)) := by rw [updR_zero, ← flat_snocB]; exact hown2
            have bc0 : ∀ q, q < R.length → w1.cell? ⟨gb, q * 4 + 3, none⟩ = some (.int .i64 (y' - y)) := fun q hq => by
              have := (cellsR_at (Band.flat ⟨y, y' - y, R⟩) q (by rw [bflat_len]; exact hq)).2.2.2
              rw [hownb.cellAt (q * 4 + 3) (by omega), this]
              have hm := getR_mem (L := Band.flat ⟨y, y' - y, R⟩) (k := q) (by rw [bflat_len]; exact hq)
              obtain ⟨r, _, e⟩ := List.mem_map.1 hm
              rw [← e]
            have O0 := Lib.hid own0
            have B0' := Lib.hid bc0
            have hgb1 : gb < w1.heap.size := (hownb.lt gb rfl).2
            have hg1 : g < w1.heap.size := (hown2.lt g rfl).2
            clear hj1 hst c39' own0 bc0 hab hla hbl ela hown2 hownb hgc hown0
            go_wp2_with (go_at_call 39; ((with_reducible refine C39.out.mono ?_)); rintro e w9 ⟨rfl, hg9⟩)
            go_loopw [59] (fun i W => ∃ k : Nat, k ≤ R.length ∧ i = .int .i64 (k : Int) ∧ W.ownsRow w7.heap.size 33 4 (.slice (some ⟨g, 0, none⟩) N cl) N (cellsR (updR (flat pre) b.flat (y' - y) k)) ∧ Below w7.heap.size w7 W ∧ ∀ q, q < R.length → W.cell? ⟨gb, q * 4 + 3, none⟩ = some (.int .i64 (y' - y))) (fun i _ => (R.length - (intOf i).toNat))
            case atStart => exact ⟨0, by omega, rfl, ownsRow_below O0.out hg9, hnx1.trans (hg9.mono hnx1.size), fun q hq => (hg9.cell (p := ⟨gb, q * 4 + 3, none⟩) hgb1).trans (B0'.out q hq)⟩
            case round =>
              obtain ⟨k, hk, rfl, hown, hnx5, hbc⟩ := hrel
              by_cases hkl : k < R.length
              · obtain ⟨uc1, uc2⟩ := updR_cells (flat pre) b.flat (y' - y) k (by rw [HBL.out]; exact hkl)
                rw [hfh.out k hkl, HEA.out] at uc1 uc2
                have l0 := (hown.cellAt ((la + k) * 4 + 3) (by omega)).trans uc2
                have l1 := hbc k hkl
                have fz := hown.frozenAt ((la + k) * 4 + 3)
                have HBC := Lib.hid hbc
                have UC := Lib.hid uc1
                have HO := Lib.hid hown
                clear uc1 uc2 hbc hown
                have s0 : IntKind.i64.wrap ((la : Int) + (k : Int)) = (la : Int) + (k : Int) := IntWalk.i64_in _ (by omega)
                have s1 : ((la : Int) + (k : Int)).toNat = la + k := by omega
                have s2 : (0 : Int) ≤ (la : Int) + (k : Int) := by omega
                have s3 : (la : Int) + (k : Int) < (N : Int) := by omega
                have s4 : IntKind.i64.wrap (b.h + (y' - y)) = b.h + (y' - y) := IntWalk.i64_in _ (by omega)
                have s5 : IntKind.i64.wrap ((k : Int) + 1) = (k : Int) + 1 := IntWalk.i64_in _ (by omega)
                go_wp2
                go_region
                go_wp2
                go_roundw
                case rel =>
                  refine ⟨k + 1, by omega, by simp, ?_, ?_, ?_⟩
                  · rw [UC.out]
                    exact (HO.out.stored _ _).1
                  · exact (Below.setCell hnx5 (p := ⟨g, (la + k) * 4 + 3, none⟩) hgb _).drew
                  · intro q hq
                    have := HBC.out q hq
                    have hne := Ne.symm hggb
                    simp [go_sem, *]
                case measure => simp [intOf]; omega
              · obtain rfl : k = R.length := by omega
                have hfe : cellsR (updR (flat pre) b.flat (y' - y) R.length) = cellsR (flat (pre ++ [⟨b.y, b.h + (y' - y), b.runs⟩])) := by rw [← HBL.out, updR_all, flat_snocB]
                have hle : (flat (pre ++ [⟨b.y, b.h + (y' - y), b.runs⟩])).length = N := by
                  rw [flat_snocB, List.length_append, HEA.out, bflat_len, hbr]
                  exact eN
                rw [hfe] at hown
                clear hfe
                have HLE := Lib.hid hle
                clear hle hbc
                go_wp2
                go_roundw
                case rel => exact ⟨j + 1, by omega, by simp, by rw [hstep.out, HST.out, lastF_snoc, HEA.out], by rw [hstep.out, HST.out, HLE.out]; exact hown, hnx5, by rw [hstep.out, HST.out, HLE.out]; omega⟩
                case measure => simp [intOf]; omega
        · have HJ := Lib.hid hj0
          have HST := Lib.hid hst
          clear hj0 hst hab hla
          rcases hcase with ⟨rfl, rfl⟩ | ⟨g, cl, cur, rfl, hgb, hgc, hNc, hcm, _, _⟩
          · obtain rfl : la = 0 := by have := lastF_le bs; rw [HLA.out, HNN.out] at this; omega
            have HARG : Hid (argR w1 w1.heap.size (.slice none 0 0) ((flat bs).drop 0)) := Lib.hid ⟨none, 0, by rw [List.drop_zero, HNN.out], fun h => by rw [List.drop_zero, HNN.out] at h; omega⟩
            have c39' := c39 _ _ ((flat bs).drop 0) (Band.flat ⟨y, y' - y, R⟩) w1 (by rw [List.length_drop, HNN.out]; omega) (by rw [bflat_len]; omega) (by rw [bflat_len]; exact hRp) HARG.out HBA.out HMA.out
            rw [HJ.out] at c39'
            have C39 := Lib.hid c39'
            clear c39'
            go_wp2_with (first | (go_at_call 39; ((with_reducible refine C39.out.mono ?_)); rintro e w9 ⟨rfl, hg9⟩) | (at_builtin; refine wpList_append_rows _ rfl _ _ 22 rfl w7.heap.size wr.heap.size 33 i1 (.agg #[.int .i64 0, .int .i64 0, .int .i64 0, .int .i64 0]) 4 32 Try.underlying22 hi1 hz1' hzs1 hzb1 rfl (by decide) _ _ _ rfl (ownsRow_below hown2 hg9) _ _ _ rfl (ownsRow_below hownb hg9) (cellsR_one _) (by unfold maxLen; omega) (by omega) (by have := hnx1.size; have := hg9.size; omega) ?_))
            intro v' w10 own10 hg10 _
            have hnx9 : Below w7.heap.size w7 w9 := hnx1.trans (hg9.mono hnx1.size)
            have hnx10 : Below w7.heap.size w7 w10 := hnx9.grown hg10 hnx9.size (fun g e => (hown2.lt g e).1)
            clear hg10 hg9
            go_wp2
            go_roundw
            case rel => exact ⟨j + 1, by omega, by simp, by rw [hstep.out, HST.out, lastF_snoc, HNN.out]; try rfl, by rw [hstep.out, HST.out, flat_snocB, List.length_append, cellsR_append, HNN.out, bflat_len]; first | exact own10 | (rw [Nat.zero_add]; exact own10), hnx10, by rw [hstep.out, HST.out, flat_snocB, List.length_append, bflat_len, HNN.out]; omega⟩
            case measure => simp [intOf]; omega
          · have hla := lastF_le bs
            rw [HLA.out, HNN.out] at hla
            by_cases hlc : la < cl
            · have HARG : Hid (argR w1 w1.heap.size (.slice (some ⟨g, la * 4, none⟩) (N - la) (cl - la)) ((flat bs).drop la)) := Lib.hid (argR_drop hown2 HNN.out hla)
              have c39' := c39 _ _ ((flat bs).drop la) (Band.flat ⟨y, y' - y, R⟩) w1 (by rw [List.length_drop, HNN.out]; omega) (by rw [bflat_len]; omega) (by rw [bflat_len]; exact hRp) HARG.out HBA.out HMA.out
              rw [HJ.out] at c39'
              have C39 := Lib.hid c39'
              clear c39'
              go_wp2_with (first | (go_at_call 39; ((with_reducible refine C39.out.mono ?_)); rintro e w9 ⟨rfl, hg9⟩) | (at_builtin; refine wpList_append_rows _ rfl _ _ 22 rfl w7.heap.size wr.heap.size 33 i1 (.agg #[.int .i64 0, .int .i64 0, .int .i64 0, .int .i64 0]) 4 32 Try.underlying22 hi1 hz1' hzs1 hzb1 rfl (by decide) _ _ _ rfl (ownsRow_below hown2 hg9) _ _ _ rfl (ownsRow_below hownb hg9) (cellsR_one _) (by unfold maxLen; omega) (by omega) (by have := hnx1.size; have := hg9.size; omega) ?_))
              intro v' w10 own10 hg10 _
              have hnx9 : Below w7.heap.size w7 w9 := hnx1.trans (hg9.mono hnx1.size)
              have hnx10 : Below w7.heap.size w7 w10 := hnx9.grown hg10 hnx9.size (fun g e => (hown2.lt g e).1)
              clear hg10 hg9
              go_wp2
              go_roundw
              case rel => exact ⟨j + 1, by omega, by simp, by rw [hstep.out, HST.out, lastF_snoc, HNN.out]; try rfl, by rw [hstep.out, HST.out, flat_snocB, List.length_append, cellsR_append, HNN.out, bflat_len]; first | exact own10 | (rw [Nat.zero_add]; exact own10), hnx10, by rw [hstep.out, HST.out, flat_snocB, List.length_append, bflat_len, HNN.out]; omega⟩
              case measure => simp [intOf]; omega
            · obtain rfl : la = 0 := by omega
              obtain rfl : N = 0 := by omega
              obtain rfl : cl = 0 := by omega
              have HARG : Hid (argR w1 w1.heap.size (.slice (some ⟨g, 0, none⟩) 0 0) ((flat bs).drop 0)) := Lib.hid ⟨some ⟨g, 0, none⟩, 0, by rw [List.drop_zero, HNN.out], fun h => by rw [List.drop_zero, HNN.out] at h; omega⟩
              have c39' := c39 _ _ ((flat bs).drop 0) (Band.flat ⟨y, y' - y, R⟩) w1 (by rw [List.length_drop, HNN.out]; omega) (by rw [bflat_len]; omega) (by rw [bflat_len]; exact hRp) HARG.out HBA.out HMA.out
              rw [HJ.out] at c39'
              have C39 := Lib.hid c39'
              clear c39'
              go_wp2_with (first | (go_at_call 39; ((with_reducible refine C39.out.mono ?_)); rintro e w9 ⟨rfl, hg9⟩) | (at_builtin; refine wpList_append_rows _ rfl _ _ 22 rfl w7.heap.size wr.heap.size 33 i1 (.agg #[.int .i64 0, .int .i64 0, .int .i64 0, .int .i64 0]) 4 32 Try.underlying22 hi1 hz1' hzs1 hzb1 rfl (by decide) _ _ _ rfl (ownsRow_below hown2 hg9) _ _ _ rfl (ownsRow_below hownb hg9) (cellsR_one _) (by unfold maxLen; omega) (by omega) (by have := hnx1.size; have := hg9.size; omega) ?_))
              intro v' w10 own10 hg10 _
              have hnx9 : Below w7.heap.size w7 w9 := hnx1.trans (hg9.mono hnx1.size)
              have hnx10 : Below w7.heap.size w7 w10 := hnx9.grown hg10 hnx9.size (fun g e => (hown2.lt g e).1)
              clear hg10 hg9
              go_wp2
              go_roundw
              case rel => exact ⟨j + 1, by omega, by simp, by rw [hstep.out, HST.out, lastF_snoc, HNN.out]; try rfl, by rw [hstep.out, HST.out, flat_snocB, List.length_append, cellsR_append, HNN.out, bflat_len]; first | exact own10 | (rw [Nat.zero_add]; exact own10), hnx10, by rw [hstep.out, HST.out, flat_snocB, List.length_append, bflat_len, HNN.out]; omega⟩
              case measure => simp [intOf]; omega
    · have hjn : j = n - 1 := by omega
      subst hjn
      rw [← hfin.out] at hown
      have hlt2 : ¬ (((n - 1 : Nat) : Int) + 1 < (n : Int)) := by omega
      clear hlen hlt hj
      obtain ⟨q, hq⟩ : ∃ q : Nat, n - 1 = q := ⟨_, rfl⟩
      rw [hq] at hlt2 ⊢
      go_wp2
      go_ret
      exact ⟨_, rfl, hn7.trans (hnx.mono hw7), hown.mono hw7⟩
end

section
open Go.RowKit
set_option maxHeartbeats 400000
set_option linter.unusedVariables false

theorem c45 (a b : Bool) (W : World) : Calls Try.prog 45 #[.bool a, .bool b] W fun e w' => e = .returned (.bool (a || b)) ∧ W = w' := by
  cases a <;> cases b
  all_goals
    go_enter Try.func45, Try.ntmps45
    go_wp2
    go_ret
    exact ⟨rfl, rfl⟩

theorem c46 (a b : Bool) (W : World) : Calls Try.prog 46 #[.bool a, .bool b] W fun e w' => e = .returned (.bool (a && b)) ∧ W = w' := by
  cases a <;> cases b
  all_goals
    go_enter Try.func46, Try.ntmps46
    go_wp2
    go_ret
    exact ⟨rfl, rfl⟩

theorem c47 (a b : Bool) (W : World) : Calls Try.prog 47 #[.bool a, .bool b] W fun e w' => e = .returned (.bool (a && !b)) ∧ W = w' := by
  cases a <;> cases b
  all_goals
    go_enter Try.func47, Try.ntmps47
    go_wp2
    go_ret
    exact ⟨rfl, rfl⟩

set_option maxHeartbeats 1000000 in
theorem c17 (u v : Value) (A B : List Rc) (w : World) (ga : argR w w.heap.size u A) (gb : argR w w.heap.size v B) (cu : capOk u) (cv : capOk v) :
    Calls Try.prog 17 #[u, v] w fun e w' => ∃ x, e = .returned x ∧ Below w.heap.size w w' ∧ w'.ownsRow w.heap.size 33 4 x (buildF (partF A) (partF B) 0).length (cellsR (buildF (partF A) (partF B) 0)) := by
  have ek : ∀ args w, (callFunc 45 args).run Try.prog w = .ok (.enter 45 args) w := enters_of Try.func45 (by kernel_rfl) rfl
  have C := Lib.hid (c44 u v A B 45 (fun a b => a || b) 0 w ga gb cu cv ek c45 rfl (fun A B p q => by simp [insideF]))
  clear ga gb cu cv ek
  go_enter Try.func17, Try.ntmps17
  go_wp2_with (go_at_call 44; ((with_reducible refine C.out.mono ?_)); rintro e w1 ⟨x, rfl, hg, hown⟩)
  go_ret
  exact ⟨_, rfl, hg, hown⟩

set_option maxHeartbeats 1000000 in
theorem c19 (u v : Value) (A B : List Rc) (w : World) (ga : argR w w.heap.size u A) (gb : argR w w.heap.size v B) (cu : capOk u) (cv : capOk v) :
    Calls Try.prog 19 #[u, v] w fun e w' => ∃ x, e = .returned x ∧ Below w.heap.size w w' ∧ w'.ownsRow w.heap.size 33 4 x (buildF (partF A) (partF B) 1).length (cellsR (buildF (partF A) (partF B) 1)) := by
  have ek : ∀ args w, (callFunc 46 args).run Try.prog w = .ok (.enter 46 args) w := enters_of Try.func46 (by kernel_rfl) rfl
  have C := Lib.hid (c44 u v A B 46 (fun a b => a && b) 1 w ga gb cu cv ek c46 rfl (fun A B p q => by simp [insideF]))
  clear ga gb cu cv ek
  go_enter Try.func19, Try.ntmps19
  go_wp2_with (go_at_call 44; ((with_reducible refine C.out.mono ?_)); rintro e w1 ⟨x, rfl, hg, hown⟩)
  go_ret
  exact ⟨_, rfl, hg, hown⟩

set_option maxHeartbeats 1000000 in
theorem c21 (u v : Value) (A B : List Rc) (w : World) (ga : argR w w.heap.size u A) (gb : argR w w.heap.size v B) (cu : capOk u) (cv : capOk v) :
    Calls Try.prog 21 #[u, v] w fun e w' => ∃ x, e = .returned x ∧ Below w.heap.size w w' ∧ w'.ownsRow w.heap.size 33 4 x (buildF (partF A) (partF B) 2).length (cellsR (buildF (partF A) (partF B) 2)) := by
  have ek : ∀ args w, (callFunc 47 args).run Try.prog w = .ok (.enter 47 args) w := enters_of Try.func47 (by kernel_rfl) rfl
  have C := Lib.hid (c44 u v A B 47 (fun a b => a && !b) 2 w ga gb cu cv ek c47 rfl (fun A B p q => by simp [insideF]))
  clear ga gb cu cv ek
  go_enter Try.func21, Try.ntmps21
  go_wp2_with (go_at_call 44; ((with_reducible refine C.out.mono ?_)); rintro e w1 ⟨x, rfl, hg, hown⟩)
  go_ret
  exact ⟨_, rfl, hg, hown⟩

theorem argR_nil (W : World) (B : Nat) : argR W B (.slice none 0 0) [] := ⟨none, 0, rfl, fun h => absurd h (Nat.lt_irrefl 0)⟩
theorem capOk_nil : capOk (.slice none 0 0) := fun ao n cap e => by
  injection e with e1 e2 e3
  subst e2
  subst e3
  exact ⟨Nat.le_refl _, Nat.zero_le _⟩
set_option maxHeartbeats 1000000 in
theorem c11 (u : Value) (A : List Rc) (w : World) (ga : argR w w.heap.size u A) (cu : capOk u) :
    Calls Try.prog 11 #[u] w fun e w' => ∃ x, e = .returned x ∧ Below w.heap.size w w' ∧ w'.ownsRow w.heap.size 33 4 x (buildF (partF A) [] 0).length (cellsR (buildF (partF A) [] 0)) := by
  have C := Lib.hid (c17 u (.slice none 0 0) A [] w ga (argR_nil _ _) cu capOk_nil)
  have e0 : partF [] = [] := rfl
  rw [e0] at C
  clear ga cu e0
  go_enter Try.func11, Try.ntmps11
  go_wp2_with (go_at_call 17; ((with_reducible refine C.out.mono ?_)); rintro e w1 ⟨x, rfl, hg, hown⟩)
  go_ret
  exact ⟨_, rfl, hg, hown⟩
end

end Go.Proofs.Ythknkgblddoapaa
