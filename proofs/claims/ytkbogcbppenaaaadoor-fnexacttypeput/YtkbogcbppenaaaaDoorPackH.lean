/- How a thing is stored whole into its new box. -/
import Derived.Test.YtkbogcbppenaaaaDoorPackC
import Derived.Test.YtkbogcbppenaaaaDoorPackA
import Derived.Test.YtkbogcbppenaaaaDoorPackB
import Derived.RangeFuncBox
import Derived.BigQuiet
import Derived.WalkSmall
import Derived.Deep.WholeRow
import Derived.Test.YtkbogcbppenaaaaDoorPackF
import Derived.Laws.CopyOwn
namespace Go.Proofs.YtkbogcbppenaaaaDoor
open Go.RowKit
set_option linter.unusedSimpArgs false
set_option linter.unusedVariables false
attribute [local go_sem ↓] Go.wp_at_zero Go.wp_at_succ

/-- Places, as cells. -/
def natCells (L : List Nat) : List Value := L.map fun i => .int .i64 (Int.ofNat i)
theorem natCells_len (L : List Nat) : (natCells L).length = L.length := by simp [natCells]
theorem natCells_more (L : List Nat) (k : Nat) : natCells (L ++ [k]) = natCells L ++ [.int .i64 (k : Int)] := by simp [natCells]
theorem nat_one {k : Int} : ∀ u ∈ [Value.int .i64 k], u.oneCell' = true := by
  intro u hu
  simp at hu
  subst hu
  rfl

set_option maxRecDepth 100000 in
set_option maxHeartbeats 2000000 in
theorem l3Shown_any (L : List Lf) (G c base : Nat) (w : World) (h : w.ownsRow base 81 4 (.slice (some ⟨G, 0, none⟩) L.length c) L.length (lfCells L)) (hn : L.length ≤ 1048576) (hc : L.length ≤ c) :
    Calls Tryd.prog 63 #[.slice (some ⟨G, 0, none⟩) L.length c] w fun e w' => ∃ S c', e = .returned (.slice (some ⟨S, 0, none⟩) (shownI L).length c') ∧ w'.ownsRow w.heap.size 3 1 (.slice (some ⟨S, 0, none⟩) (shownI L).length c') (shownI L).length (natCells (shownI L)) ∧ Below w.heap.size w w' := by
  have hG := (h.lt G rfl).2
  have HC : Hid (∀ j, j < L.length * 4 → w.cell? ⟨G, j, none⟩ = (lfCells L)[j]?) := fun j hj => h.cellAt j hj
  clear h
  obtain ⟨i0, hi, hz0', hz1', hz2⟩ := info_parts infoInt
  have HI1 := hideIt hi
  have HZ0 := hideIt hz0'
  have HZ1 := hideIt hz1'
  have HZ2 := hideIt hz2
  clear hi hz0' hz1' hz2
  go_enter Tryd.func63, Tryd.ntmps63
  go_wp2
  have HST : Hid ((w.alloc (.cells #[] 3)).ownsRow w.heap.size 3 1 (.slice (some ⟨w.heap.size, 0, none⟩) 0 0) 0 []) :=
    World.ownsRow_made (base := w.heap.size) (e := 3) (size := 1) w #[] 0 (Nat.le_refl _) (Nat.zero_le _) rfl
  go_loopw [3, 4] (fun v i wr => ∃ (k S c' : Nat), k ≤ L.length ∧ i = .int .i64 k ∧ v = .slice (some ⟨S, 0, none⟩) (shownTo L k).length c' ∧ wr.ownsRow w.heap.size 3 1 v (shownTo L k).length (natCells (shownTo L k)) ∧ Below w.heap.size w wr)
    (fun _ i _ => L.length - (intOf i).toNat)
  case atStart => exact ⟨0, w.heap.size, 0, Nat.zero_le _, rfl, rfl, HST.out, (Below.refl _ _).alloc (Nat.le_refl _) _⟩
  case round =>
    obtain ⟨k, Sb, cs, hk, rfl, rfl, hrow, hB⟩ := hrel
    have HB := hideIt hB
    have HRW := hideIt hrow
    have hzr := hB.size
    by_cases hlt : k < L.length
    · obtain ⟨i0', i1, i2, i3⟩ := lfCells_at L k L[k] (by simp [hlt])
      have y3 := ((bcell hB).1 G _ hG).trans ((HC.out (k * 4 + 3) (by omega)).trans i3)
      have hGr := Nat.lt_of_lt_of_le hG hB.size
      have hgone : Hid (L[k].z = true → shownTo L (k + 1) = shownTo L k) := shownTo_gone hlt
      have hthere : Hid (L[k].z = false → shownTo L (k + 1) = shownTo L k ++ [k]) := shownTo_there hlt
      have hsl : (shownTo L k).length ≤ 1048576 := by have := shownTo_len L k; omega
      generalize L[k].z = xz at *
      have hlt' : (k : Int) < (L.length : Int) := by omega
      have hk0 : (0 : Int) ≤ (k : Int) := by omega
      clear hB hrow i0' i1 i2 i3
      cases xz
      · have hsame := hideIt (hthere.out rfl)
        go_wp2_with (first
          | (at_builtin; refine wpList_append_own_at _ rfl _ _ 44 rfl w.heap.size 3 i0 _ 1 8 Tryd.underlying44 HI1.out HZ0.out HZ1.out HZ2.out rfl (by decide) _ _ _ rfl (HRW.out.alloc _) ⟨wr.heap.size, 0, none⟩ 1 1 [.int .i64 (k : Int)] rfl rfl (cells_new wr [.int .i64 (k : Int)] 3) nat_one (by unfold maxLen; omega) (by omega) (by simp; omega) ?_; intro v' w2 hown2 hg2 _ _;
              obtain ⟨g', cap', hv'⟩ := ownsRow_succ hown2; subst hv';
              have HO2 := hideIt hown2; have HB2 := hideIt (below_grown (HB.out.alloc HB.out.size _) hg2 (by simp; omega) (fun j e => (HRW.out.lt j e).1)); clear hown2 hg2))
        exact ⟨⟨k + 1, _, _, by omega, by go_num, by rw [hsame.out, List.length_append]; rfl, by rw [hsame.out, natCells_more, List.length_append]; exact HO2.out, HB2.out⟩, by simp [intOf]; omega⟩
      · have hsame := hideIt (hgone.out rfl)
        go_wp2
        exact ⟨⟨k + 1, _, _, by omega, by go_num, by rw [hsame.out], by rw [hsame.out]; exact HRW.out, HB.out⟩, by simp [intOf]; omega⟩
    · obtain rfl : k = L.length := by omega
      go_wp2
      go_ret
      exact ⟨_, _, rfl, HRW.out, HB.out⟩
end Go.Proofs.YtkbogcbppenaaaaDoor

namespace Go.Proofs.YtkbogcbppenaaaaDoor
open Go.RowKit
set_option linter.unusedSimpArgs false
set_option linter.unusedVariables false

set_option maxRecDepth 100000 in
set_option maxHeartbeats 4000000 in
theorem l1Seen_any (l : List Op7) (g cap : Nat) (w : World) (hl : OpsAt w g l) (hn : l.length ≤ 1048576) (hcap : l.length ≤ cap) (hok : l.all okO = true) (hord : ordB l = true) :
    Calls Tryd.prog 105 #[.slice (some ⟨g, 0, none⟩) l.length cap] w fun e w' => e = .returned (.slice (some ⟨w.heap.size, 0, none⟩) 3 3) ∧ IntsAt w' w.heap.size [cnt l 1, cnt l 2, cnt l 3] ∧ Below w.heap.size w w' := by
  have hgw : g < w.heap.size := hl.1
  have HL0 : Hid (OpsAt w g l) := hl
  have HO : Hid (l.all okO = true) := hok
  have HR : Hid (ordB l = true) := hord
  clear hl hok hord
  go_enter Tryd.func105, Tryd.ntmps105
  obtain ⟨i0, hi, hz0, hz1, hz2⟩ := info_parts infoInt
  go_wp2_with (first
    | (at_make; refine wpList_make_full _ rfl _ _ 44 rfl w.heap.size 3 i0 _ 1 Tryd.underlying44 hi hz0 hz1 .i64 .i64 _ _ 3 rfl rfl rfl rfl (by rw [hz2]; omega) (by unfold maxLen; omega) (Nat.le_refl _) ?_; intro w1 hown hgrow))
  clear hi hz0 hz1 hz2
  rw [made3] at hown
  have hB1 : Below w.heap.size w w1 := (Below.refl _ _).grown hgrow (Nat.le_refl _) (fun k h => by cases h)
  have c0 : w1.cell? ⟨w.heap.size, 0, none⟩ = some (.int .i64 0) := hown.cellAt 0 (by omega)
  have c1 : w1.cell? ⟨w.heap.size, 1, none⟩ = some (.int .i64 0) := hown.cellAt 1 (by omega)
  have c2 : w1.cell? ⟨w.heap.size, 2, none⟩ = some (.int .i64 0) := hown.cellAt 2 (by omega)
  have f0 : ∀ j, w1.frozen? ⟨w.heap.size, j, none⟩ = false := fun j => hown.frozenAt j
  have z0 : w.heap.size < w1.heap.size := (hown.lt _ rfl).2
  clear hown hgrow
  go_loopw [4] (fun i wr => ∃ k : Nat, k ≤ l.length ∧ i = .int .i64 k ∧ wr.cell? ⟨w.heap.size, 0, none⟩ = some (.int .i64 (cntTo l k 1)) ∧ wr.cell? ⟨w.heap.size, 1, none⟩ = some (.int .i64 (cntTo l k 2)) ∧ wr.cell? ⟨w.heap.size, 2, none⟩ = some (.int .i64 (cntTo l k 3)) ∧ (∀ j, wr.frozen? ⟨w.heap.size, j, none⟩ = false) ∧ w.heap.size < wr.heap.size ∧ Below w.heap.size w wr)
    (fun i _ => l.length - (intOf i).toNat)
  case atStart => exact ⟨0, Nat.zero_le _, rfl, by rw [cntTo_zero]; exact c0, by rw [cntTo_zero]; exact c1, by rw [cntTo_zero]; exact c2, f0, z0, hB1⟩
  case round =>
    obtain ⟨k, hk, rfl, q0, q1, q2, hfz, hws, hB⟩ := hrel
    have HB : Hid (Below w.heap.size w wr) := hB
    have HL : Hid (OpsAt wr g l) := HL0.out.below hB hgw
    have hgr : g < wr.heap.size := HL.out.1
    clear hB hB1 c0 c1 c2 f0 z0
    by_cases hlt : k < l.length
    · obtain ⟨h0, h1, _⟩ := HL.out.2 k l[k] (by simp [hlt])
      obtain ⟨ha1, ha3, hb1, hb12⟩ := okO_id (all_iff.1 HO.out k hlt)
      have hnum := num_is HO.out HR.out k hlt
      have s1 : Hid (∀ r, l[k].a = r → cntTo l (k + 1) r = cntTo l k r + 1) := fun r h => cntTo_same hlt h
      have s2 : Hid (∀ r, l[k].a ≠ r → cntTo l (k + 1) r = cntTo l k r) := fun r h => cntTo_other hlt h
      have b1 := cntTo_le l k 1
      have b2 := cntTo_le l k 2
      have b3 := cntTo_le l k 3
      generalize l[k] = o at *
      obtain ⟨xa, xb, xk, xc, xd, xs, xg⟩ := o
      simp only at *
      have hlt' : (k : Int) < (l.length : Int) := by omega
      have hk0 : (0 : Int) ≤ (k : Int) := by omega
      have hw0 : IntKind.i64.wrap 0 = 0 := by decide
      have hw1 : IntKind.i64.wrap 1 = 1 := by decide
      have hw2 : IntKind.i64.wrap 2 = 2 := by decide
      obtain rfl | rfl | rfl : xa = 1 ∨ xa = 2 ∨ xa = 3 := by omega
      · have E1 := hideIt (s1.out _ rfl)
        have hm1 : Hid (xb = cntTo l k 1 + 1) := hnum
        clear hnum s1
        generalize hc1 : cntTo l k 1 = n1 at *
        generalize hc2 : cntTo l k 2 = n2 at *
        generalize hc3 : cntTo l k 3 = n3 at *
        have C1 := hideIt hc1
        have C2 := hideIt hc2
        have C3 := hideIt hc3
        clear hc1 hc2 hc3
        obtain rfl := hm1.out
        go_wp2
        go_region
        go_wp2
        refine ⟨⟨k + 1, by omega, by go_num, ?_, ?_, ?_, fun j => by simp [hfz], by simpa using hws, by have := HB.out; go_grown⟩, by simp [intOf]; omega⟩
        · rw [E1.out]; simp [q0, q1, q2, go_sem]
        · rw [s2.out 2 (by decide), C2.out]; simp [q0, q1, q2, go_sem]
        · rw [s2.out 3 (by decide), C3.out]; simp [q0, q1, q2, go_sem]
      · have E1 := hideIt (s1.out _ rfl)
        have hm1 : Hid (xb = cntTo l k 2 + 1) := hnum
        clear hnum s1
        generalize hc1 : cntTo l k 1 = n1 at *
        generalize hc2 : cntTo l k 2 = n2 at *
        generalize hc3 : cntTo l k 3 = n3 at *
        have C1 := hideIt hc1
        have C2 := hideIt hc2
        have C3 := hideIt hc3
        clear hc1 hc2 hc3
        obtain rfl := hm1.out
        go_wp2
        go_region
        go_wp2
        refine ⟨⟨k + 1, by omega, by go_num, ?_, ?_, ?_, fun j => by simp [hfz], by simpa using hws, by have := HB.out; go_grown⟩, by simp [intOf]; omega⟩
        · rw [s2.out 1 (by decide), C1.out]; simp [q0, q1, q2, go_sem]
        · rw [E1.out]; simp [q0, q1, q2, go_sem]
        · rw [s2.out 3 (by decide), C3.out]; simp [q0, q1, q2, go_sem]
      · have E1 := hideIt (s1.out _ rfl)
        have hm1 : Hid (xb = cntTo l k 3 + 1) := hnum
        clear hnum s1
        generalize hc1 : cntTo l k 1 = n1 at *
        generalize hc2 : cntTo l k 2 = n2 at *
        generalize hc3 : cntTo l k 3 = n3 at *
        have C1 := hideIt hc1
        have C2 := hideIt hc2
        have C3 := hideIt hc3
        clear hc1 hc2 hc3
        obtain rfl := hm1.out
        go_wp2
        go_region
        go_wp2
        refine ⟨⟨k + 1, by omega, by go_num, ?_, ?_, ?_, fun j => by simp [hfz], by simpa using hws, by have := HB.out; go_grown⟩, by simp [intOf]; omega⟩
        · rw [s2.out 1 (by decide), C1.out]; simp [q0, q1, q2, go_sem]
        · rw [s2.out 2 (by decide), C2.out]; simp [q0, q1, q2, go_sem]
        · rw [E1.out]; simp [q0, q1, q2, go_sem]
    · obtain rfl : k = l.length := by omega
      rw [cntTo_len] at q0 q1 q2
      go_wp2
      go_ret
      exact ⟨rfl, ⟨hws, fun i x hx => by
        match i, hx with
        | 0, hx => simp at hx; subst hx; exact q0
        | 1, hx => simp at hx; subst hx; exact q1
        | 2, hx => simp at hx; subst hx; exact q2⟩, HB.out⟩
end Go.Proofs.YtkbogcbppenaaaaDoor

namespace Go.Proofs.YtkbogcbppenaaaaDoor
open Go.RowKit
set_option linter.unusedSimpArgs false
set_option linter.unusedVariables false
attribute [local go_sem ↓] Go.wp_at_zero Go.wp_at_succ

theorem in3 {r : Int} (h : inB r 1 3 = true) : r = 1 ∨ r = 2 ∨ r = 3 := by
  simp [inB] at h
  omega

set_option maxRecDepth 100000 in
set_option maxHeartbeats 2000000 in
theorem l3Next_any (l : List Op7) (g cap : Nat) (r : Int) (w : World) (hl : OpsAt w g l) (hn : l.length ≤ 1048576) (hcap : l.length ≤ cap) :
    Calls Tryd.prog 76 #[.slice (some ⟨g, 0, none⟩) l.length cap, .int .i64 r] w fun e w' =>
      (((opsB l && inB r 1 3) = false ∧ e = .returned (.tuple #[.agg #[.int .i64 0, .int .i64 0], .bool false])) ∨
       (opsB l = true ∧ inB r 1 3 = true ∧ e = .returned (.tuple #[.agg #[.int .i64 r, .int .i64 (cnt l r + 1)], .bool (decide (cnt l r + 1 ≤ 12))]))) ∧ Below w.heap.size w w' := by
  have HL := hideIt hl
  have hgw := hl.1
  clear hl
  cases ho : opsB l
  all_goals
    have HO := hideIt ho
    clear ho
    go_enter Tryd.func76, Tryd.ntmps76
    go_wp2_with fail
    have HB0 : Hid (Below w.heap.size w (w.alloc (.cells #[.int .i64 0, .int .i64 0] 30))) := (Below.refl _ _).alloc (Nat.le_refl _) _
    refine (specOps_any l _ _ _ (HL.out.below HB0.out hgw) hn hcap).mono ?_
    rintro e w1 ⟨rfl, hb1⟩
    rw [HO.out]
    have HB1 := hideIt (Bstep HB0.out hb1)
    have rc0 : w1.cell? ⟨w.heap.size, 0, none⟩ = some (.int .i64 0) := ((bcell hb1).1 _ _ (by simp)).trans (by simp [go_sem])
    have rc1 : w1.cell? ⟨w.heap.size, 1, none⟩ = some (.int .i64 0) := ((bcell hb1).1 _ _ (by simp)).trans (by simp [go_sem])
    have hwl : w.heap.size < w1.heap.size := by have := hb1.size; simp at this; omega
    have FZ : Hid (∀ j, w1.frozen? ⟨w.heap.size, j, none⟩ = false) := fun j => ((bcell hb1).2 _ _ (by simp)).trans (by simp [go_sem])
    clear hb1
  · have hfz : ∀ j, w1.frozen? ⟨w.heap.size, j, none⟩ = false := FZ.out
    go_wp2
    have hbb := HB1.out
    exact bodyPost_ret (v := .tuple #[.agg #[.int .i64 0, .int .i64 0], .bool false]) (by simp [results, Tryd.results76, go_sem, rc0, rc1]) rfl ⟨.inl ⟨rfl, rfl⟩, by go_grown⟩
  · cases hi : inB r 1 3
    all_goals
      have HI := hideIt hi
      clear hi
      have hfz : ∀ j, w1.frozen? ⟨w.heap.size, j, none⟩ = false := FZ.out
      go_wp2_with (first | (go_at_call 64; refine (l6In_any _ _ _ _).mono ?_; rintro e w' ⟨rfl, hw'⟩; subst hw'; rw [HI.out]))
    · have hbb := HB1.out
      exact bodyPost_ret (v := .tuple #[.agg #[.int .i64 0, .int .i64 0], .bool false]) (by simp [results, Tryd.results76, go_sem, rc0, rc1]) rfl ⟨.inl ⟨by simp [HI.out], rfl⟩, by go_grown⟩
    · obtain ⟨hok, hord⟩ := opsParts HO.out
      refine (l1Seen_any l _ _ _ (HL.out.below HB1.out hgw) hn hcap hok hord).mono ?_
      rintro e w2 ⟨rfl, hI, hb2⟩
      have HB2 := hideIt (Bstep HB1.out hb2)
      obtain ⟨c0, c1, c2⟩ := ints3 hI
      have hw2 : w.heap.size < w2.heap.size := Nat.lt_of_lt_of_le hwl hb2.size
      have rd0 := ((bcell hb2).1 _ _ hwl).trans rc0
      have rd1 := ((bcell hb2).1 _ _ hwl).trans rc1
      have hfy : ∀ j, w2.frozen? ⟨w.heap.size, j, none⟩ = false := fun j => ((bcell hb2).2 _ _ hwl).trans (hfz j)
      have hc := cnt_sum l
      have n1 := cnt_nonneg l 1
      have n2 := cnt_nonneg l 2
      have n3 := cnt_nonneg l 3
      clear hb2 hI hok hord
      obtain rfl | rfl | rfl := in3 HI.out
      all_goals
        generalize hx1 : cnt l 1 = x1 at *
        generalize hx2 : cnt l 2 = x2 at *
        generalize hx3 : cnt l 3 = x3 at *
        go_wp2
        have hbb := HB2.out
        first
          | exact bodyPost_ret (v := .tuple #[.agg #[.int .i64 1, .int .i64 (x1 + 1)], .bool (decide (x1 + 1 ≤ 12))]) (by simp [results, Tryd.results76, go_sem, rd0, rd1]) rfl ⟨.inr ⟨trivial, HI.out, by rw [hx1]⟩, by go_grown⟩
          | exact bodyPost_ret (v := .tuple #[.agg #[.int .i64 2, .int .i64 (x2 + 1)], .bool (decide (x2 + 1 ≤ 12))]) (by simp [results, Tryd.results76, go_sem, rd0, rd1]) rfl ⟨.inr ⟨trivial, HI.out, by rw [hx2]⟩, by go_grown⟩
          | exact bodyPost_ret (v := .tuple #[.agg #[.int .i64 3, .int .i64 (x3 + 1)], .bool (decide (x3 + 1 ≤ 12))]) (by simp [results, Tryd.results76, go_sem, rd0, rd1]) rfl ⟨.inr ⟨trivial, HI.out, by rw [hx3]⟩, by go_grown⟩
end Go.Proofs.YtkbogcbppenaaaaDoor

namespace Go.Proofs.YtkbogcbppenaaaaDoor
open Go.RowKit
set_option linter.unusedSimpArgs false
set_option linter.unusedVariables false
attribute [local go_sem ↓] Go.wp_at_zero Go.wp_at_succ

/-- The cells of things. -/
def opCells (L : List Op7) : List Value := L.flatMap fun o => [.int .i64 o.a, .int .i64 o.b, .int .i64 o.k, .int .i64 o.c, .int .i64 o.d, .int .i64 o.s, .int .i64 o.g]
theorem opCells_len : ∀ L : List Op7, (opCells L).length = L.length * 7
  | [] => rfl
  | x :: r => by have := opCells_len r; simp [opCells] at this ⊢; omega
theorem opCells_app (L M : List Op7) : opCells (L ++ M) = opCells L ++ opCells M := by simp [opCells]
theorem opCells_one : ∀ L, ∀ u ∈ opCells L, u.oneCell' = true := by
  intro L u hu
  unfold opCells at hu
  obtain ⟨o, _, ho⟩ := List.mem_flatMap.1 hu
  simp at ho
  rcases ho with rfl | rfl | rfl | rfl | rfl | rfl | rfl <;> rfl
theorem opCells_at : ∀ (L : List Op7) (i : Nat) (o : Op7), L[i]? = some o → (opCells L)[i * 7]? = some (.int .i64 o.a) ∧ (opCells L)[i * 7 + 1]? = some (.int .i64 o.b) ∧ (opCells L)[i * 7 + 2]? = some (.int .i64 o.k) ∧ (opCells L)[i * 7 + 3]? = some (.int .i64 o.c) ∧ (opCells L)[i * 7 + 4]? = some (.int .i64 o.d) ∧ (opCells L)[i * 7 + 5]? = some (.int .i64 o.s) ∧ (opCells L)[i * 7 + 6]? = some (.int .i64 o.g)
  | [], i, o, h => by simp at h
  | y :: r, 0, o, h => by simp at h; subst h; simp [opCells]
  | y :: r, i + 1, o, h => by
    have h' := opCells_at r i o (by simpa using h)
    have e : opCells (y :: r) = [.int .i64 y.a, .int .i64 y.b, .int .i64 y.k, .int .i64 y.c, .int .i64 y.d, .int .i64 y.s, .int .i64 y.g] ++ opCells r := by simp [opCells]
    have hs : ∀ j, (opCells (y :: r))[(i + 1) * 7 + j]? = (opCells r)[i * 7 + j]? := fun j => by
      rw [e, List.getElem?_append_right (by simp; omega)]
      congr 1
      simp
      omega
    have h0 := hs 0
    simp only [Nat.add_zero] at h0
    rw [h0, hs 1, hs 2, hs 3, hs 4, hs 5, hs 6]
    exact h'
/-- A row of things of one's own. -/
def OwnOps (w : World) (base : Nat) (g cap : Nat) (L : List Op7) : Prop := w.ownsRow base 51 7 (.slice (some ⟨g, 0, none⟩) L.length cap) L.length (opCells L)
theorem OwnOps.at {w : World} {base g cap : Nat} {L : List Op7} (h : OwnOps w base g cap L) : OpsAt w g L := by
  refine ⟨(World.ownsRow.lt h g rfl).2, fun i o ho => ?_⟩
  obtain ⟨h0, h1, h2, h3, h4, h5, h6⟩ := opCells_at L i o ho
  have hi : i < L.length := (List.getElem?_eq_some_iff.1 ho).1
  have hc : ∀ j, j < L.length * 7 → w.cell? ⟨g, j, none⟩ = (opCells L)[j]? := fun j hj => World.ownsRow.cellAt h j hj
  exact ⟨(hc _ (by omega)).trans h0, (hc _ (by omega)).trans h1, (hc _ (by omega)).trans h2, (hc _ (by omega)).trans h3, (hc _ (by omega)).trans h4, (hc _ (by omega)).trans h5, (hc _ (by omega)).trans h6⟩
theorem OwnOps.cap {w : World} {base g cap : Nat} {L : List Op7} (h : OwnOps w base g cap L) : L.length ≤ cap := by
  rcases h.2 with ⟨h, _⟩ | ⟨g', c', cur, h, _, _, h2, _⟩
  · cases h
  · cases h; exact h2
theorem OwnOps.below {w w' : World} {base g cap : Nat} {L : List Op7} (h : OwnOps w base g cap L) (hb : Below w.heap.size w w') : OwnOps w' base g cap L :=
  World.ownsRow.kept h (row := none) ⟨hb.os, hb.tape, hb.output, hb.size, fun i hi _ => hb.block i hi⟩ (.inr (by simp [Value.ownBlock]))
theorem infoOp : (Tryd.prog.info? 51).map (fun i => (i.zero, i.size, i.bytes)) = some (some (.agg #[.int .i64 0, .int .i64 0, .int .i64 0, .int .i64 0, .int .i64 0, .int .i64 0, .int .i64 0]), 7, 56) := by kernel_rfl

theorem blkCell {W : World} {b : Nat} {cur : Array Value} {T : TypeId} (h : W.heap[b]? = some (.cells cur T (0, 0))) (j : Nat) : W.cell? ⟨b, j, none⟩ = cur[j]? := by simp [World.cell?, h]
/-- One is ahead of another. -/
def lessB (p q : Op7) : Bool := decide (p.a < q.a ∨ (p.a = q.a ∧ p.b < q.b))
/-- What was done, with something more. -/
def withL (l : List Op7) (o : Op7) : List Op7 := l.filter (fun p => lessB p o) ++ [o] ++ l.filter (fun p => lessB o p)

set_option maxRecDepth 100000 in
set_option maxHeartbeats 2000000 in
theorem specLess_any (a b c d : Int) (w : World) :
    Calls Tryd.prog 82 #[.agg #[.int .i64 a, .int .i64 b], .agg #[.int .i64 c, .int .i64 d]] w fun e w' => e = .returned (.bool (decide (a < c ∨ (a = c ∧ b < d)))) ∧ Below w.heap.size w w' := by
  go_enter Tryd.func82, Tryd.ntmps82
  by_cases h1 : a < c
  · go_wp2
    go_ret
    exact ⟨by simp [h1], by go_grown⟩
  · by_cases h2 : a = c
    · subst h2
      go_wp2
      go_ret
      exact ⟨by simp, by go_grown⟩
    · go_wp2
      go_ret
      exact ⟨by simp [h1, h2], by go_grown⟩
end Go.Proofs.YtkbogcbppenaaaaDoor

namespace Go.Proofs.YtkbogcbppenaaaaDoor
open Go.RowKit
set_option linter.unusedSimpArgs false
set_option linter.unusedVariables false

theorem build_op0 (W : World) : (Instr.build 51 #[]).run Tryd.prog W = .ok (.agg #[.int .i64 0, .int .i64 0, .int .i64 0, .int .i64 0, .int .i64 0, .int .i64 0, .int .i64 0]) W := by
  kernel_rfl
theorem build_opTake (W : World) (a b c d : Int) : (Instr.build 51 #[(0, .agg #[.int .i64 a, .int .i64 b]), (1, .int .i64 2), (2, .agg #[.int .i64 c, .int .i64 d])]).run Tryd.prog W = .ok (.agg #[.int .i64 a, .int .i64 b, .int .i64 2, .int .i64 c, .int .i64 d, .int .i64 0, .int .i64 0]) W := by
  kernel_rfl
theorem build_opPut (W : World) (a b c d s g : Int) : (Instr.build 51 #[(0, .agg #[.int .i64 a, .int .i64 b]), (1, .int .i64 1), (2, .agg #[.int .i64 c, .int .i64 d]), (3, .int .i64 s), (4, .int .i64 g)]).run Tryd.prog W = .ok (.agg #[.int .i64 a, .int .i64 b, .int .i64 1, .int .i64 c, .int .i64 d, .int .i64 s, .int .i64 g]) W := by
  kernel_rfl
/-- A thing stored whole into its box. -/
theorem store_op (W : World) (b : Nat) (cur : Array Value) (h : W.heap[b]? = some (.cells cur 51 (0, 0))) (hs : cur.size = 7) (a1 a2 a3 a4 a5 a6 a7 : Int) :
    (Instr.storeAt 51 (.pointer (some ⟨b, 0, none⟩)) (.agg #[.int .i64 a1, .int .i64 a2, .int .i64 a3, .int .i64 a4, .int .i64 a5, .int .i64 a6, .int .i64 a7])).run Tryd.prog W = .ok () (W.setRow b #[.int .i64 a1, .int .i64 a2, .int .i64 a3, .int .i64 a4, .int .i64 a5, .int .i64 a6, .int .i64 a7]) := by
  simp only [Instr.storeAt, Instr.sureAddr, Sem.run_bind, Sem.run_pure, Result.andThen]
  exact run_storeVar_row _ _ _ _ cur _ h (by kernel_rfl) (by simp [hs]) (by simp [Value.oneCell'])
/-- An id stored whole into its new box. -/
theorem store_id_new (w : World) (a b : Int) : (Instr.storeAt 30 (.pointer (some ⟨w.heap.size, 0, none⟩)) (.agg #[.int .i64 a, .int .i64 b])).run Tryd.prog (w.alloc (.cells #[.int .i64 0, .int .i64 0] 30)) = .ok () (w.alloc (.cells #[.int .i64 a, .int .i64 b] 30)) :=
  run_storeAt_new w 30 #[.int .i64 0, .int .i64 0] #[.int .i64 a, .int .i64 b] (by kernel_rfl) rfl (by simp [Value.oneCell'])
end Go.Proofs.YtkbogcbppenaaaaDoor

namespace Go.Proofs.YtkbogcbppenaaaaDoor
open Go.RowKit
set_option linter.unusedSimpArgs false
set_option linter.unusedVariables false
attribute [local go_sem ↓] Go.wp_at_zero Go.wp_at_succ build_op0 build_opTake build_opPut

def opV (o : Op7) : Value := .agg #[.int .i64 o.a, .int .i64 o.b, .int .i64 o.k, .int .i64 o.c, .int .i64 o.d, .int .i64 o.s, .int .i64 o.g]
/-- The box of a thing that is to be returned, still nothing. -/
structure RB (w W : World) : Prop where
  box : W.heap[w.heap.size]? = some (.cells #[.int .i64 0, .int .i64 0, .int .i64 0, .int .i64 0, .int .i64 0, .int .i64 0, .int .i64 0] 51 (0, 0))
  bel : Below w.heap.size w W
theorem RB.lt {w W : World} (h : RB w W) : w.heap.size < W.heap.size := (Array.getElem?_eq_some_iff.1 h.box).1
theorem RB.start (w : World) : RB w (w.alloc (.cells #[.int .i64 0, .int .i64 0, .int .i64 0, .int .i64 0, .int .i64 0, .int .i64 0, .int .i64 0] 51)) := ⟨World.alloc_heap_new _ _, (Below.refl _ _).alloc (Nat.le_refl _) _⟩
theorem RB.below {w W W' : World} (h : RB w W) (hb : Below W.heap.size W W') : RB w W' := ⟨(hb.block _ h.lt).trans h.box, Bstep h.bel hb⟩
theorem RB.cells {w W : World} (h : RB w W) : W.cell? ⟨w.heap.size, 0, none⟩ = some (.int .i64 0) ∧ W.cell? ⟨w.heap.size, 1, none⟩ = some (.int .i64 0) ∧ W.cell? ⟨w.heap.size, 2, none⟩ = some (.int .i64 0) ∧ W.cell? ⟨w.heap.size, 3, none⟩ = some (.int .i64 0) ∧ W.cell? ⟨w.heap.size, 4, none⟩ = some (.int .i64 0) ∧ W.cell? ⟨w.heap.size, 5, none⟩ = some (.int .i64 0) ∧ W.cell? ⟨w.heap.size, 6, none⟩ = some (.int .i64 0) :=
  ⟨(blkCell h.box 0).trans rfl, (blkCell h.box 1).trans rfl, (blkCell h.box 2).trans rfl, (blkCell h.box 3).trans rfl, (blkCell h.box 4).trans rfl, (blkCell h.box 5).trans rfl, (blkCell h.box 6).trans rfl⟩
theorem RB.frozen {w W : World} (h : RB w W) (j : Nat) : W.frozen? ⟨w.heap.size, j, none⟩ = false := by simp [World.frozen?, h.box]
/-- The box behind its one store. -/
theorem RB.stored {w W : World} (h : RB w W) (a1 a2 a3 a4 a5 a6 a7 : Int) : (W.setRow w.heap.size #[.int .i64 a1, .int .i64 a2, .int .i64 a3, .int .i64 a4, .int .i64 a5, .int .i64 a6, .int .i64 a7]).heap[w.heap.size]? = some (.cells #[.int .i64 a1, .int .i64 a2, .int .i64 a3, .int .i64 a4, .int .i64 a5, .int .i64 a6, .int .i64 a7] 51 (0, 0)) ∧ Below w.heap.size w (W.setRow w.heap.size #[.int .i64 a1, .int .i64 a2, .int .i64 a3, .int .i64 a4, .int .i64 a5, .int .i64 a6, .int .i64 a7]) :=
  ⟨setRow_heap _ _ _ _ _ _ h.box, below_setRow h.bel (Nat.le_refl _) _⟩
theorem all7 (a1 a2 a3 a4 a5 a6 a7 : Int) : (#[Value.int .i64 a1, .int .i64 a2, .int .i64 a3, .int .i64 a4, .int .i64 a5, .int .i64 a6, .int .i64 a7].all fun x => x.oneCell') = true := by simp [Value.oneCell']
/-- A thing stored whole in a region that draws its order. -/
theorem store_arm {P : Program} {o : Oper} {A : Act} {w : World} {K' : Act → World → Prop} {Q : Exit → Act → World → Prop} {ys : Nat → Option Bool} {ty t : TypeId} {x y : Operand} {g : Nat} {cells old : Array Value}
    (ho : o.op = .store ty x y) (hw : Region.wanted o ys = true) (hx : A.eval x = .pointer (some ⟨g, 0, none⟩)) (hy : A.eval y = .agg cells) (hg : w.heap[g]? = some (.cells old t (0, 0))) (hi : (P.info? ty).map (·.size) = some cells.size)
    (hold : old.size = cells.size) (h1 : cells.all (·.oneCell') = true) (h : K' (A.put o.dst undef) (w.setRow g cells)) :
    if Region.wanted o ys = true then Oper.wp P o A w K' Q else K' (A.put o.dst undef) w := by
  rw [if_pos hw]
  exact wp_store_row ty x y ho g cells hx hy t old hg hi hold h1 h
theorem setRow_cell {W : World} {g b o : Nat} {cs : Array Value} {v : Value} (h : b ≠ g) (hv : W.cell? ⟨b, o, none⟩ = some v) : (W.setRow g cs).cell? ⟨b, o, none⟩ = some v := by
  rw [← hv]
  simp [World.cell?, setRow_other W g b cs h]
theorem rowKeep {w w' : World} {b : Nat} {T : TypeId} {m : Nat} {v : Value} {n : Nat} {xs : List Value} (h : w.ownsRow b T m v n xs) (hb : Below w.heap.size w w') : w'.ownsRow b T m v n xs :=
  h.kept (row := none) ⟨hb.os, hb.tape, hb.output, hb.size, fun i hi _ => hb.block i hi⟩ (by cases v.ownBlock <;> simp)
theorem natCells_at {L : List Nat} {i j : Nat} (h : L[i]? = some j) : (natCells L)[i]? = some (.int .i64 (j : Int)) := by simp [natCells, h]

attribute [-go_sem] Instr.storeAt
attribute [local go_sem ↓] store_id_new
set_option maxRecDepth 100000 in
set_option maxHeartbeats 1000000 in
theorem typeTake_any (l : List Op7) (g cap : Nat) (r t : Int) (w : World) (hl : OpsAt w g l) (hn : l.length ≤ 1048576) (hcap : l.length ≤ cap) :
    Calls Tryd.prog 37 #[.slice (some ⟨g, 0, none⟩) l.length cap, .int .i64 r, .int .i64 t] w fun e w' =>
      ((mayTake l r t = false ∧ e = .returned (.tuple #[.agg #[.int .i64 0, .int .i64 0, .int .i64 0, .int .i64 0, .int .i64 0, .int .i64 0, .int .i64 0], .bool false])) ∨
       (mayTake l r t = true ∧ e = .returned (.tuple #[opV (takeO l r t.toNat), .bool true]))) ∧ Below w.heap.size w w' := by
  have HL := hideIt hl
  have hgw := hl.1
  clear hl
  go_enter Tryd.func37, Tryd.ntmps37
  go_wp2_with fail
  have HRB := hideIt (RB.start w)
  refine (l3Next_any l _ _ _ _ (HL.out.below HRB.out.bel hgw) hn hcap).mono ?_
  rintro e w1 ⟨(⟨hno, rfl⟩ | ⟨hops, hin, rfl⟩), hb1⟩
  all_goals
    have HR1 := hideIt (HRB.out.below hb1)
    clear hb1 HRB
  · have HA := hideIt (HR1.out.below ((Below.refl _ _).alloc (Nat.le_refl _) (.cells #[.int .i64 0, .int .i64 0] 30)))
    have hwl := HR1.out.lt
    have HNO := hideIt hno
    clear hno
    go_wp2_with (first | (refine wpList_store_row rfl 51 _ _ rfl w.heap.size _ rfl rfl 51 _ HA.out.box (by kernel_rfl) rfl (all7 _ _ _ _ _ _ _) ?_; have HST := hideIt (HA.out.stored 0 0 0 0 0 0 0); generalize World.setRow _ _ _ = W9 at *))
    obtain ⟨hb9, hbel9⟩ := HST.out
    have r0 := (blkCell hb9 0).trans rfl
    have r1 := (blkCell hb9 1).trans rfl
    have r2 := (blkCell hb9 2).trans rfl
    have r3 := (blkCell hb9 3).trans rfl
    have r4 := (blkCell hb9 4).trans rfl
    have r5 := (blkCell hb9 5).trans rfl
    have r6 := (blkCell hb9 6).trans rfl
    exact bodyPost_ret (v := .tuple #[.agg #[.int .i64 0, .int .i64 0, .int .i64 0, .int .i64 0, .int .i64 0, .int .i64 0, .int .i64 0], .bool false]) (by simp [results, Tryd.results37, go_sem, r0, r1, r2, r3, r4, r5, r6]) rfl ⟨.inl ⟨by simp [mayTake, mayMore, HNO.out], rfl⟩, hbel9⟩
  · have HO := hideIt hops
    have HI := hideIt hin
    clear hops hin
    generalize hz : decide (cnt l r + 1 ≤ 12) = z
    have HZ := hideIt hz
    clear hz
    generalize hcn : cnt l r + 1 = cn
    have HCN := hideIt hcn
    clear hcn
    cases z
    · have HA := hideIt (HR1.out.below ((Below.refl _ _).alloc (Nat.le_refl _) (.cells #[.int .i64 r, .int .i64 cn] 30)))
      have hwl := HR1.out.lt
      go_wp2_with (first | (refine wpList_store_row rfl 51 _ _ rfl w.heap.size _ rfl rfl 51 _ HA.out.box (by kernel_rfl) rfl (all7 _ _ _ _ _ _ _) ?_; have HST := hideIt (HA.out.stored 0 0 0 0 0 0 0); generalize World.setRow _ _ _ = W9 at *))
      obtain ⟨hb9, hbel9⟩ := HST.out
      have r0 := (blkCell hb9 0).trans rfl
      have r1 := (blkCell hb9 1).trans rfl
      have r2 := (blkCell hb9 2).trans rfl
      have r3 := (blkCell hb9 3).trans rfl
      have r4 := (blkCell hb9 4).trans rfl
      have r5 := (blkCell hb9 5).trans rfl
      have r6 := (blkCell hb9 6).trans rfl
      exact bodyPost_ret (v := .tuple #[.agg #[.int .i64 0, .int .i64 0, .int .i64 0, .int .i64 0, .int .i64 0, .int .i64 0, .int .i64 0], .bool false]) (by simp [results, Tryd.results37, go_sem, r0, r1, r2, r3, r4, r5, r6]) rfl ⟨.inl ⟨by simp [mayTake, mayMore, HZ.out], rfl⟩, hbel9⟩
    · have HA1 := hideIt (HR1.out.below ((Below.refl _ _).alloc (Nat.le_refl _) (.cells #[.int .i64 r, .int .i64 cn] 30)))
      have D1 : Hid ((w1.alloc (.cells #[.int .i64 r, .int .i64 cn] 30)).cell? ⟨w1.heap.size, 0, none⟩ = some (.int .i64 r) ∧ (w1.alloc (.cells #[.int .i64 r, .int .i64 cn] 30)).cell? ⟨w1.heap.size, 1, none⟩ = some (.int .i64 cn) ∧ w1.heap.size < (w1.alloc (.cells #[.int .i64 r, .int .i64 cn] 30)).heap.size) := ⟨by simp [go_sem], by simp [go_sem], by simp⟩
      have hdd : w1.heap.size ≠ w.heap.size := by have := HR1.out.lt; omega
      have HOP := hideIt (HL.out.below HA1.out.bel hgw)
      go_wp2_with fail
      clear HR1
      generalize w1.alloc (.cells #[.int .i64 r, .int .i64 cn] 30) = Wi at *
      generalize w1.heap.size = B1 at *
      refine (l2Leaves_any l HO.out _ _ _ HOP.out hn hcap).mono ?_
      rintro e w2 ⟨G, c, rfl, hr, hb2⟩
      have HLN := hideIt (lvs_len HO.out)
      have hc : (lvs l).length ≤ c := by
        rcases hr.2 with ⟨h, _⟩ | ⟨g', c', cur, h, _, _, h2, _⟩
        · cases h
        · cases h; unfold lvs; rw [lfs_len]; exact h2
      rw [lfs_cells, ← lfs_len l (allO l)] at hr
      rw [← lfs_len l (allO l)]
      have HR : Hid (w2.ownsRow Wi.heap.size 81 4 (.slice (some ⟨G, 0, none⟩) (lvs l).length c) (lvs l).length (lfCells (lvs l))) := hr
      have HR2 := hideIt (HA1.out.below hb2)
      have D2 : Hid (w2.cell? ⟨B1, 0, none⟩ = some (.int .i64 r) ∧ w2.cell? ⟨B1, 1, none⟩ = some (.int .i64 cn) ∧ B1 < w2.heap.size) := ⟨((bcell hb2).1 _ _ D1.out.2.2).trans D1.out.1, ((bcell hb2).1 _ _ D1.out.2.2).trans D1.out.2.1, Nat.lt_of_lt_of_le D1.out.2.2 hb2.size⟩
      have hGw : Hid (w.heap.size < Wi.heap.size ∧ w.heap.size < w2.heap.size) := ⟨HA1.out.lt, HR2.out.lt⟩
      clear hr hb2 HA1 D1 HOP
      rw [show (lfs l (allO l)) = lvs l from rfl]
      go_wp2_with fail
      refine (l3Shown_any (lvs l) G c _ _ HR.out (by have := HLN.out; omega) hc).mono ?_
      rintro e w3 ⟨S, c3, rfl, hr3, hb3⟩
      have HS3 := hideIt hr3
      have HRR := hideIt (rowKeep HR.out hb3)
      have HA := hideIt (HR2.out.below hb3)
      have D3 : Hid (w3.cell? ⟨B1, 0, none⟩ = some (.int .i64 r) ∧ w3.cell? ⟨B1, 1, none⟩ = some (.int .i64 cn) ∧ B1 < w3.heap.size) := ⟨((bcell hb3).1 _ _ D2.out.2.2).trans D2.out.1, ((bcell hb3).1 _ _ D2.out.2.2).trans D2.out.2.1, Nat.lt_of_lt_of_le D2.out.2.2 hb3.size⟩
      have hsn : (shownI (lvs l)).length ≤ 36 := Nat.le_trans (shownTo_len _ _) HLN.out
      clear hr3 hb3 HR HR2 D2
      have hwl := HA.out.lt
      cases hi : inB t 0 ((shownI (lvs l)).length - 1)
      all_goals
        have HIN := hideIt hi
        clear hi
      · go_wp2_with (first | (go_at_call 64; refine (l6In_any _ _ _ _).mono ?_; rintro e w' ⟨rfl, hw'⟩; subst hw'; rw [HIN.out]) | (refine wpList_store_row rfl 51 _ _ rfl w.heap.size _ rfl rfl 51 _ HA.out.box (by kernel_rfl) rfl (all7 _ _ _ _ _ _ _) ?_; have HST := hideIt (HA.out.stored 0 0 0 0 0 0 0); generalize World.setRow _ _ _ = W9 at *))
        obtain ⟨hb9, hbel9⟩ := HST.out
        have r0 := (blkCell hb9 0).trans rfl
        have r1 := (blkCell hb9 1).trans rfl
        have r2 := (blkCell hb9 2).trans rfl
        have r3 := (blkCell hb9 3).trans rfl
        have r4 := (blkCell hb9 4).trans rfl
        have r5 := (blkCell hb9 5).trans rfl
        have r6 := (blkCell hb9 6).trans rfl
        exact bodyPost_ret (v := .tuple #[.agg #[.int .i64 0, .int .i64 0, .int .i64 0, .int .i64 0, .int .i64 0, .int .i64 0, .int .i64 0], .bool false]) (by simp [results, Tryd.results37, go_sem, r0, r1, r2, r3, r4, r5, r6]) rfl ⟨.inl ⟨by simp [mayTake, HIN.out], rfl⟩, hbel9⟩
      · obtain ⟨k, rfl, hk⟩ : ∃ k : Nat, t = k ∧ k < (shownI (lvs l)).length := by
          have h := HIN.out
          simp [inB] at h
          exact ⟨t.toNat, by omega, by omega⟩
        obtain ⟨j, x, hj, hx, hjl⟩ := shown_leaf hk
        have HTK : Hid (takeO l r k = ⟨r, cn, 2, x.a, x.b, 0, 0⟩) := by show takeO l r k = _; simp [takeO, takeId, hj, hx, HCN.out]
        have hS := (World.ownsRow.cellAt HS3.out k (by omega)).trans (natCells_at hj)
        obtain ⟨q0, q1, _, _⟩ := lfCells_at (lvs l) j x hx
        have z0 := (World.ownsRow.cellAt HRR.out (j * 4) (by omega)).trans q0
        have z1 := (World.ownsRow.cellAt HRR.out (j * 4 + 1) (by omega)).trans q1
        have hSl := (World.ownsRow.lt HS3.out S rfl).2
        have hGl := (World.ownsRow.lt HRR.out G rfl).2
        have hk' : (k : Int) < ((shownI (lvs l)).length : Int) := by omega
        have hj' : (j : Int) < ((lvs l).length : Int) := by omega
        have hj0 : (0 : Int) ≤ (j : Int) := by omega
        have hk0 : (0 : Int) ≤ (k : Int) := by omega
        obtain ⟨d0, d1, dl⟩ := D3.out
        generalize x.a = xa at *
        generalize x.b = xb at *
        clear q0 q1 hj hx
        go_wp2_with (first | (go_at_call 64; refine (l6In_any _ _ _ _).mono ?_; rintro e w' ⟨rfl, hw'⟩; subst hw'; rw [HIN.out]) | (refine wpList_store_row rfl 51 _ _ rfl w.heap.size _ rfl rfl 51 _ HA.out.box (by kernel_rfl) rfl (all7 _ _ _ _ _ _ _) ?_; have HST := hideIt (HA.out.stored r cn 2 xa xb 0 0); generalize World.setRow _ _ _ = W9 at *))
        have ks1 : (Instr.storeAt 51 (.pointer (some ⟨w.heap.size, 0, none⟩)) (.agg #[.int .i64 r, .int .i64 cn, .int .i64 2, .int .i64 xa, .int .i64 xb, .int .i64 0, .int .i64 0])).run Tryd.prog w'.drew = .ok () (w'.drew.setRow w.heap.size #[.int .i64 r, .int .i64 cn, .int .i64 2, .int .i64 xa, .int .i64 xb, .int .i64 0, .int .i64 0]) := store_op w'.drew w.heap.size _ HA.out.box rfl r cn 2 xa xb 0 0
        have HST := hideIt ((HA.out.below ((Below.refl _ _).drew)).stored r cn 2 xa xb 0 0)
        have nS : S ≠ w.heap.size := by have h1 := (World.ownsRow.lt HS3.out S rfl).1; have h2 := hGw.out.2; omega
        have nG : G ≠ w.heap.size := by have h1 := (World.ownsRow.lt HRR.out G rfl).1; have h2 := hGw.out.1; omega
        have K9 : Hid ((w'.drew.setRow w.heap.size #[.int .i64 r, .int .i64 cn, .int .i64 2, .int .i64 xa, .int .i64 xb, .int .i64 0, .int .i64 0]).cell? ⟨B1, 0, none⟩ = some (.int .i64 r) ∧ (w'.drew.setRow w.heap.size #[.int .i64 r, .int .i64 cn, .int .i64 2, .int .i64 xa, .int .i64 xb, .int .i64 0, .int .i64 0]).cell? ⟨B1, 1, none⟩ = some (.int .i64 cn) ∧ (w'.drew.setRow w.heap.size #[.int .i64 r, .int .i64 cn, .int .i64 2, .int .i64 xa, .int .i64 xb, .int .i64 0, .int .i64 0]).cell? ⟨S, k, none⟩ = some (.int .i64 j) ∧ (w'.drew.setRow w.heap.size #[.int .i64 r, .int .i64 cn, .int .i64 2, .int .i64 xa, .int .i64 xb, .int .i64 0, .int .i64 0]).cell? ⟨G, j * 4, none⟩ = some (.int .i64 xa) ∧ (w'.drew.setRow w.heap.size #[.int .i64 r, .int .i64 cn, .int .i64 2, .int .i64 xa, .int .i64 xb, .int .i64 0, .int .i64 0]).cell? ⟨G, j * 4 + 1, none⟩ = some (.int .i64 xb)) :=
          ⟨setRow_cell (W := w'.drew) hdd d0, setRow_cell (W := w'.drew) hdd d1, setRow_cell (W := w'.drew) nS hS, setRow_cell (W := w'.drew) nG z0, setRow_cell (W := w'.drew) nG z1⟩
        go_region_held3 (fun w' => w'.cell? ⟨B1, 0, none⟩ = some (.int .i64 r) ∧ w'.cell? ⟨B1, 1, none⟩ = some (.int .i64 cn) ∧ w'.cell? ⟨S, k, none⟩ = some (.int .i64 j) ∧ w'.cell? ⟨G, j * 4, none⟩ = some (.int .i64 xa) ∧ w'.cell? ⟨G, j * 4 + 1, none⟩ = some (.int .i64 xb))
          (first | exact ⟨d0, d1, hS, z0, z1⟩ | exact K9.out)
          (fail)
        rename_i hHH
        clear hHH K9
        generalize World.setRow _ _ _ = W9 at *
        go_wp2
        obtain ⟨hb9, hbel9⟩ := HST.out
        have r0 := (blkCell hb9 0).trans rfl
        have r1 := (blkCell hb9 1).trans rfl
        have r2 := (blkCell hb9 2).trans rfl
        have r3 := (blkCell hb9 3).trans rfl
        have r4 := (blkCell hb9 4).trans rfl
        have r5 := (blkCell hb9 5).trans rfl
        have r6 := (blkCell hb9 6).trans rfl
        exact bodyPost_ret (v := .tuple #[.agg #[.int .i64 r, .int .i64 cn, .int .i64 2, .int .i64 xa, .int .i64 xb, .int .i64 0, .int .i64 0], .bool true]) (by simp [results, Tryd.results37, go_sem, r0, r1, r2, r3, r4, r5, r6]) rfl ⟨.inr ⟨by simp [mayTake, mayMore, HO.out, HI.out, HZ.out, HIN.out], by rw [show ((k : Int)).toNat = k from rfl, HTK.out]; rfl⟩, hbel9⟩
end Go.Proofs.YtkbogcbppenaaaaDoor

namespace Go.Proofs.YtkbogcbppenaaaaDoor
open Go.RowKit
set_option linter.unusedSimpArgs false
set_option linter.unusedVariables false
attribute [local go_sem ↓] Go.wp_at_zero Go.wp_at_succ build_op0 build_opTake build_opPut

theorem row_len {W : World} {base : Nat} {T : TypeId} {m : Nat} {v : Value} {n : Nat} {xs : List Value} (h : W.ownsRow base T m v n xs) : ∃ p c, v = .slice p n c := by
  rcases h.2 with ⟨rfl, h0⟩ | ⟨g, c, cur, rfl, _⟩
  · exact ⟨none, 0, by rw [h0]⟩
  · exact ⟨_, _, rfl⟩
theorem putO_yes {l : List Op7} {r sg : Int} {t : Nat} (h : kidsL l ((leftOf l t).1, (leftOf l t).2.1, 1) = []) : putO l r t sg = ⟨r, cnt l r + 1, 1, (leftOf l t).1, (leftOf l t).2.1, 1, sg⟩ := by unfold putO; rw [if_pos h]
theorem putO_no {l : List Op7} {r sg : Int} {t : Nat} (h : kidsL l ((leftOf l t).1, (leftOf l t).2.1, 1) ≠ []) {x : Lf} (hx : (lvs l)[(leftOf l t).2.2]? = some x) : putO l r t sg = ⟨r, cnt l r + 1, 1, x.a, x.b, 0, sg⟩ := by unfold putO; rw [if_neg h]; simp [nextLf, hx]

attribute [-go_sem] Instr.storeAt
attribute [local go_sem ↓] store_id_new
set_option maxRecDepth 100000 in
set_option maxHeartbeats 2000000 in
theorem typePut_any (l : List Op7) (g cap : Nat) (r t sg : Int) (w : World) (hl : OpsAt w g l) (hn : l.length ≤ 1048576) (hcap : l.length ≤ cap) :
    Calls Tryd.prog 40 #[.slice (some ⟨g, 0, none⟩) l.length cap, .int .i64 r, .int .i64 t, .int .i64 sg] w fun e w' =>
      ((mayPut l r t sg = false ∧ e = .returned (.tuple #[.agg #[.int .i64 0, .int .i64 0, .int .i64 0, .int .i64 0, .int .i64 0, .int .i64 0, .int .i64 0], .bool false])) ∨
       (mayPut l r t sg = true ∧ e = .returned (.tuple #[opV (putO l r t.toNat sg), .bool true]))) ∧ Below w.heap.size w w' := by
  have HL := hideIt hl
  have hgw := hl.1
  clear hl
  go_enter Tryd.func40, Tryd.ntmps40
  go_wp2_with fail
  have HRB := hideIt (RB.start w)
  refine (l3Next_any l _ _ _ _ (HL.out.below HRB.out.bel hgw) hn hcap).mono ?_
  rintro e w1 ⟨(⟨hno, rfl⟩ | ⟨hops, hin, rfl⟩), hb1⟩
  all_goals
    have HR1 := hideIt (HRB.out.below hb1)
    clear hb1 HRB
  · have HA := hideIt (HR1.out.below ((Below.refl _ _).alloc (Nat.le_refl _) (.cells #[.int .i64 0, .int .i64 0] 30)))
    have hwl := HR1.out.lt
    have HNO := hideIt hno
    clear hno
    go_wp2_with (first | (refine wpList_store_row rfl 51 _ _ rfl w.heap.size _ rfl rfl 51 _ HA.out.box (by kernel_rfl) rfl (all7 _ _ _ _ _ _ _) ?_; have HST := hideIt (HA.out.stored 0 0 0 0 0 0 0); generalize World.setRow _ _ _ = W9 at *))
    obtain ⟨hb9, hbel9⟩ := HST.out
    have r0 := (blkCell hb9 0).trans rfl
    have r1 := (blkCell hb9 1).trans rfl
    have r2 := (blkCell hb9 2).trans rfl
    have r3 := (blkCell hb9 3).trans rfl
    have r4 := (blkCell hb9 4).trans rfl
    have r5 := (blkCell hb9 5).trans rfl
    have r6 := (blkCell hb9 6).trans rfl
    exact bodyPost_ret (v := .tuple #[.agg #[.int .i64 0, .int .i64 0, .int .i64 0, .int .i64 0, .int .i64 0, .int .i64 0, .int .i64 0], .bool false]) (by simp [results, Tryd.results40, go_sem, r0, r1, r2, r3, r4, r5, r6]) rfl ⟨.inl ⟨by simp [mayPut, mayMore, HNO.out], rfl⟩, hbel9⟩
  · have HO := hideIt hops
    have HI := hideIt hin
    clear hops hin
    generalize hz : decide (cnt l r + 1 ≤ 12) = z
    have HZ := hideIt hz
    clear hz
    generalize hcn : cnt l r + 1 = cn
    have HCN := hideIt hcn
    clear hcn
    cases z
    · have HA := hideIt (HR1.out.below ((Below.refl _ _).alloc (Nat.le_refl _) (.cells #[.int .i64 r, .int .i64 cn] 30)))
      have hwl := HR1.out.lt
      go_wp2_with (first | (refine wpList_store_row rfl 51 _ _ rfl w.heap.size _ rfl rfl 51 _ HA.out.box (by kernel_rfl) rfl (all7 _ _ _ _ _ _ _) ?_; have HST := hideIt (HA.out.stored 0 0 0 0 0 0 0); generalize World.setRow _ _ _ = W9 at *))
      obtain ⟨hb9, hbel9⟩ := HST.out
      have r0 := (blkCell hb9 0).trans rfl
      have r1 := (blkCell hb9 1).trans rfl
      have r2 := (blkCell hb9 2).trans rfl
      have r3 := (blkCell hb9 3).trans rfl
      have r4 := (blkCell hb9 4).trans rfl
      have r5 := (blkCell hb9 5).trans rfl
      have r6 := (blkCell hb9 6).trans rfl
      exact bodyPost_ret (v := .tuple #[.agg #[.int .i64 0, .int .i64 0, .int .i64 0, .int .i64 0, .int .i64 0, .int .i64 0, .int .i64 0], .bool false]) (by simp [results, Tryd.results40, go_sem, r0, r1, r2, r3, r4, r5, r6]) rfl ⟨.inl ⟨by simp [mayPut, mayMore, HZ.out], rfl⟩, hbel9⟩
    · cases hsg : inB sg 97 122
      all_goals
        have HSG := hideIt hsg
        clear hsg
      · have HA := hideIt (HR1.out.below ((Below.refl _ _).alloc (Nat.le_refl _) (.cells #[.int .i64 r, .int .i64 cn] 30)))
        have hwl := HR1.out.lt
        go_wp2_with (first | (go_at_call 64; refine (l6In_any _ _ _ _).mono ?_; rintro e w' ⟨rfl, hw'⟩; subst hw'; rw [HSG.out]) | (refine wpList_store_row rfl 51 _ _ rfl w.heap.size _ rfl rfl 51 _ HA.out.box (by kernel_rfl) rfl (all7 _ _ _ _ _ _ _) ?_; have HST := hideIt (HA.out.stored 0 0 0 0 0 0 0); generalize World.setRow _ _ _ = W9 at *))
        obtain ⟨hb9, hbel9⟩ := HST.out
        have r0 := (blkCell hb9 0).trans rfl
        have r1 := (blkCell hb9 1).trans rfl
        have r2 := (blkCell hb9 2).trans rfl
        have r3 := (blkCell hb9 3).trans rfl
        have r4 := (blkCell hb9 4).trans rfl
        have r5 := (blkCell hb9 5).trans rfl
        have r6 := (blkCell hb9 6).trans rfl
        exact bodyPost_ret (v := .tuple #[.agg #[.int .i64 0, .int .i64 0, .int .i64 0, .int .i64 0, .int .i64 0, .int .i64 0, .int .i64 0], .bool false]) (by simp [results, Tryd.results40, go_sem, r0, r1, r2, r3, r4, r5, r6]) rfl ⟨.inl ⟨by simp [mayPut, HSG.out], rfl⟩, hbel9⟩
      · have HA1 := hideIt (HR1.out.below ((Below.refl _ _).alloc (Nat.le_refl _) (.cells #[.int .i64 r, .int .i64 cn] 30)))
        have D1 : Hid ((w1.alloc (.cells #[.int .i64 r, .int .i64 cn] 30)).cell? ⟨w1.heap.size, 0, none⟩ = some (.int .i64 r) ∧ (w1.alloc (.cells #[.int .i64 r, .int .i64 cn] 30)).cell? ⟨w1.heap.size, 1, none⟩ = some (.int .i64 cn) ∧ w1.heap.size < (w1.alloc (.cells #[.int .i64 r, .int .i64 cn] 30)).heap.size) := ⟨by simp [go_sem], by simp [go_sem], by simp⟩
        have hdd : w1.heap.size ≠ w.heap.size := by have := HR1.out.lt; omega
        have HOP := hideIt (HL.out.below HA1.out.bel hgw)
        go_wp2_with (first | (go_at_call 64; refine (l6In_any _ _ _ _).mono ?_; rintro e w' ⟨rfl, hw'⟩; subst hw'; rw [HSG.out]))
        clear HR1
        generalize w1.alloc (.cells #[.int .i64 r, .int .i64 cn] 30) = Wi at *
        generalize w1.heap.size = B1 at *
        refine (l2Leaves_any l HO.out _ _ _ HOP.out hn hcap).mono ?_
        rintro e w2 ⟨G, c, rfl, hr, hb2⟩
        have HLN := hideIt (lvs_len HO.out)
        have hc : (lvs l).length ≤ c := by
          rcases hr.2 with ⟨h, _⟩ | ⟨g', c', cur, h, _, _, h2, _⟩
          · cases h
          · cases h; unfold lvs; rw [lfs_len]; exact h2
        rw [lfs_cells, ← lfs_len l (allO l)] at hr
        rw [← lfs_len l (allO l)]
        have HR : Hid (w2.ownsRow Wi.heap.size 81 4 (.slice (some ⟨G, 0, none⟩) (lvs l).length c) (lvs l).length (lfCells (lvs l))) := hr
        have HR2 := hideIt (HA1.out.below hb2)
        have D2 : Hid (w2.cell? ⟨B1, 0, none⟩ = some (.int .i64 r) ∧ w2.cell? ⟨B1, 1, none⟩ = some (.int .i64 cn) ∧ B1 < w2.heap.size) := ⟨((bcell hb2).1 _ _ D1.out.2.2).trans D1.out.1, ((bcell hb2).1 _ _ D1.out.2.2).trans D1.out.2.1, Nat.lt_of_lt_of_le D1.out.2.2 hb2.size⟩
        have hGw : Hid (w.heap.size < Wi.heap.size ∧ w.heap.size < w2.heap.size) := ⟨HA1.out.lt, HR2.out.lt⟩
        clear hr hb2 HA1 D1 HOP
        rw [show (lfs l (allO l)) = lvs l from rfl]
        go_wp2_with fail
        refine (l3Shown_any (lvs l) G c _ _ HR.out (by have := HLN.out; omega) hc).mono ?_
        rintro e w3 ⟨S, c3, rfl, hr3, hb3⟩
        have HS3 := hideIt hr3
        have HRR := hideIt (rowKeep HR.out hb3)
        have HA := hideIt (HR2.out.below hb3)
        have D3 : Hid (w3.cell? ⟨B1, 0, none⟩ = some (.int .i64 r) ∧ w3.cell? ⟨B1, 1, none⟩ = some (.int .i64 cn) ∧ B1 < w3.heap.size) := ⟨((bcell hb3).1 _ _ D2.out.2.2).trans D2.out.1, ((bcell hb3).1 _ _ D2.out.2.2).trans D2.out.2.1, Nat.lt_of_lt_of_le D2.out.2.2 hb3.size⟩
        have hsn : (shownI (lvs l)).length ≤ 36 := Nat.le_trans (shownTo_len _ _) HLN.out
        clear hr3 hb3 HR HR2 D2
        have hwl := HA.out.lt
        cases hi : inB t 0 (shownI (lvs l)).length
        all_goals
          have HIN := hideIt hi
          clear hi
        · go_wp2_with (first | (go_at_call 64; refine (l6In_any _ _ _ _).mono ?_; rintro e w' ⟨rfl, hw'⟩; subst hw'; rw [HIN.out]) | (refine wpList_store_row rfl 51 _ _ rfl w.heap.size _ rfl rfl 51 _ HA.out.box (by kernel_rfl) rfl (all7 _ _ _ _ _ _ _) ?_; have HST := hideIt (HA.out.stored 0 0 0 0 0 0 0); generalize World.setRow _ _ _ = W9 at *))
          obtain ⟨hb9, hbel9⟩ := HST.out
          have r0 := (blkCell hb9 0).trans rfl
          have r1 := (blkCell hb9 1).trans rfl
          have r2 := (blkCell hb9 2).trans rfl
          have r3 := (blkCell hb9 3).trans rfl
          have r4 := (blkCell hb9 4).trans rfl
          have r5 := (blkCell hb9 5).trans rfl
          have r6 := (blkCell hb9 6).trans rfl
          exact bodyPost_ret (v := .tuple #[.agg #[.int .i64 0, .int .i64 0, .int .i64 0, .int .i64 0, .int .i64 0, .int .i64 0, .int .i64 0], .bool false]) (by simp [results, Tryd.results40, go_sem, r0, r1, r2, r3, r4, r5, r6]) rfl ⟨.inl ⟨by simp [mayPut, HIN.out], rfl⟩, hbel9⟩
        · have hk : 0 ≤ t ∧ t ≤ (shownI (lvs l)).length := by
            have h := HIN.out
            simp [inB] at h
            exact h
          obtain ⟨d0, d1, dl⟩ := D3.out
          by_cases ht : t = 0
          · subst ht
            go_wp2_with (first | (go_at_call 64; refine (l6In_any _ _ _ _).mono ?_; rintro e w' ⟨rfl, hw'⟩; subst hw'; rw [HIN.out]))
            have HAL := hideIt (HA.out.below ((Below.refl _ _).alloc (Nat.le_refl _) (.cells #[.int .i64 0, .int .i64 0] 30)))
            have hb0 : Below w'.heap.size w' (w'.alloc (.cells #[.int .i64 0, .int .i64 0] 30)) := (Below.refl _ _).alloc (Nat.le_refl _) _
            have D4 : Hid ((w'.alloc (.cells #[.int .i64 0, .int .i64 0] 30)).cell? ⟨w'.heap.size, 0, none⟩ = some (.int .i64 0) ∧ (w'.alloc (.cells #[.int .i64 0, .int .i64 0] 30)).cell? ⟨w'.heap.size, 1, none⟩ = some (.int .i64 0) ∧ w'.heap.size < (w'.alloc (.cells #[.int .i64 0, .int .i64 0] 30)).heap.size) := ⟨by simp [go_sem], by simp [go_sem], by simp⟩
            have HRK := hideIt (rowKeep HRR.out hb0)
            have a0 := ((bcell hb0).1 _ _ dl).trans d0
            have a1 := ((bcell hb0).1 _ _ dl).trans d1
            have al := Nat.lt_of_lt_of_le dl hb0.size
            have hd2 : w'.heap.size ≠ w.heap.size := by have := HA.out.lt; omega
            clear hb0
            generalize w'.alloc (.cells #[.int .i64 0, .int .i64 0] 30) = Wj at *
            generalize w'.heap.size = B2 at *
            refine (l2Kids_any l g cap _ _ _ _ (HL.out.below HAL.out.bel hgw) hn hcap).mono ?_
            rintro e w4 ⟨v, rfl, hrk, hb4⟩
            obtain ⟨pk, ck, rfl⟩ := row_len hrk
            have d0 := ((bcell hb4).1 _ _ al).trans a0
            have d1 := ((bcell hb4).1 _ _ al).trans a1
            have e0 := ((bcell hb4).1 _ _ D4.out.2.2).trans D4.out.1
            have e1 := ((bcell hb4).1 _ _ D4.out.2.2).trans D4.out.2.1
            have HR4 := hideIt (rowKeep HRK.out hb4)
            have hB14 : B1 < w4.heap.size := Nat.lt_of_lt_of_le al hb4.size
            have hB24 : B2 < w4.heap.size := Nat.lt_of_lt_of_le D4.out.2.2 hb4.size
            have HA := hideIt (HAL.out.below hb4)
            have hwl4 := HA.out.lt
            have nG : G ≠ w.heap.size := by have h1 := (World.ownsRow.lt HRR.out G rfl).1; have h2 := hGw.out.1; omega
            have hGl4 := (World.ownsRow.lt HR4.out G rfl).2
            clear hrk hb4 HAL HRK
            by_cases hK : kidsL l (0, 0, 1) = []
            · have HOP : Hid (putO l r (0) sg = ⟨r, cn, 1, 0, 0, 1, sg⟩) := by
                have h := putO_yes (l := l) (r := r) (sg := sg) (t := 0) (by rw [leftOf_zero]; exact hK)
                rw [leftOf_zero, HCN.out] at h
                exact h
              have hkn : (kidsL l (0, 0, 1)).length = 0 := by rw [hK]; rfl
              rw [hkn]
              clear hK
              go_wp2_with (first | (refine wpList_store_row rfl 51 _ _ rfl w.heap.size _ rfl rfl 51 _ HA.out.box (by kernel_rfl) rfl (all7 _ _ _ _ _ _ _) ?_; have HST := hideIt (HA.out.stored r cn 1 0 0 1 sg); generalize World.setRow _ _ _ = W9 at *))
              obtain ⟨hb9, hbel9⟩ := HST.out
              have r0 := (blkCell hb9 0).trans rfl
              have r1 := (blkCell hb9 1).trans rfl
              have r2 := (blkCell hb9 2).trans rfl
              have r3 := (blkCell hb9 3).trans rfl
              have r4 := (blkCell hb9 4).trans rfl
              have r5 := (blkCell hb9 5).trans rfl
              have r6 := (blkCell hb9 6).trans rfl
              exact bodyPost_ret (v := .tuple #[.agg #[.int .i64 r, .int .i64 cn, .int .i64 1, .int .i64 0, .int .i64 0, .int .i64 1, .int .i64 sg], .bool true]) (by simp [results, Tryd.results40, go_sem, r0, r1, r2, r3, r4, r5, r6]) rfl ⟨.inr ⟨by simp [mayPut, mayMore, HO.out, HI.out, HZ.out, HIN.out, HSG.out], by rw [show ((0 : Int)).toNat = 0 from rfl, HOP.out]; rfl⟩, hbel9⟩
            · have hnx : 0 < (lvs l).length := by
                have h := left_next (l := l) HO.out (t := 0) (by omega) (by rw [leftOf_zero]; exact hK)
                rw [leftOf_zero] at h
                exact h
              have hxn : (lvs l)[0]? = some (lvs l)[0] := by simp [hnx]
              have HOP : Hid (putO l r (0) sg = ⟨r, cn, 1, (lvs l)[0].a, (lvs l)[0].b, 0, sg⟩) := by
                have h := putO_no (l := l) (r := r) (sg := sg) (t := 0) (by rw [leftOf_zero]; exact hK) (x := (lvs l)[0]) (by rw [leftOf_zero]; exact hxn)
                rw [HCN.out] at h
                exact h
              obtain ⟨q0, q1, _, _⟩ := lfCells_at (lvs l) (0) _ hxn
              have u0 := (World.ownsRow.cellAt HR4.out ((0) * 4) (by omega)).trans q0
              have u1 := (World.ownsRow.cellAt HR4.out ((0) * 4 + 1) (by omega)).trans q1
              have hkp : 0 < (kidsL l (0, 0, 1)).length := List.length_pos_iff.2 hK
              generalize (lvs l)[0].a = ya at *
              generalize (lvs l)[0].b = yb at *
              generalize (kidsL l (0, 0, 1)).length = kn at *
              clear hK hxn q0 q1
              have hkp' : ¬ ((kn : Int) = 0) := by omega
              have hnx' : (0 : Int) < ((lvs l).length : Int) := by omega
              have ks1 : (Instr.storeAt 51 (.pointer (some ⟨w.heap.size, 0, none⟩)) (.agg #[.int .i64 r, .int .i64 cn, .int .i64 1, .int .i64 ya, .int .i64 yb, .int .i64 0, .int .i64 sg])).run Tryd.prog w4.drew = .ok () (w4.drew.setRow w.heap.size #[.int .i64 r, .int .i64 cn, .int .i64 1, .int .i64 ya, .int .i64 yb, .int .i64 0, .int .i64 sg]) := store_op w4.drew w.heap.size _ HA.out.box rfl r cn 1 ya yb 0 sg
              have HST := hideIt ((HA.out.below ((Below.refl _ _).drew)).stored r cn 1 ya yb 0 sg)
              have K9 : Hid ((w4.drew.setRow w.heap.size #[.int .i64 r, .int .i64 cn, .int .i64 1, .int .i64 ya, .int .i64 yb, .int .i64 0, .int .i64 sg]).cell? ⟨B1, 0, none⟩ = some (.int .i64 r) ∧ (w4.drew.setRow w.heap.size #[.int .i64 r, .int .i64 cn, .int .i64 1, .int .i64 ya, .int .i64 yb, .int .i64 0, .int .i64 sg]).cell? ⟨B1, 1, none⟩ = some (.int .i64 cn) ∧ (w4.drew.setRow w.heap.size #[.int .i64 r, .int .i64 cn, .int .i64 1, .int .i64 ya, .int .i64 yb, .int .i64 0, .int .i64 sg]).cell? ⟨G, (0) * 4, none⟩ = some (.int .i64 ya) ∧ (w4.drew.setRow w.heap.size #[.int .i64 r, .int .i64 cn, .int .i64 1, .int .i64 ya, .int .i64 yb, .int .i64 0, .int .i64 sg]).cell? ⟨G, (0) * 4 + 1, none⟩ = some (.int .i64 yb)) :=
                ⟨setRow_cell (W := w4.drew) hdd d0, setRow_cell (W := w4.drew) hdd d1, setRow_cell (W := w4.drew) nG u0, setRow_cell (W := w4.drew) nG u1⟩
              go_wp2
              go_region_held3 (fun w' => w'.cell? ⟨B1, 0, none⟩ = some (.int .i64 r) ∧ w'.cell? ⟨B1, 1, none⟩ = some (.int .i64 cn) ∧ w'.cell? ⟨G, (0) * 4, none⟩ = some (.int .i64 ya) ∧ w'.cell? ⟨G, (0) * 4 + 1, none⟩ = some (.int .i64 yb))
                (first | exact ⟨d0, d1, u0, u1⟩ | exact K9.out)
                (fail)
              rename_i hHH
              clear hHH K9
              generalize World.setRow _ _ _ = W9 at *
              go_wp2
              obtain ⟨hb9, hbel9⟩ := HST.out
              have r0 := (blkCell hb9 0).trans rfl
              have r1 := (blkCell hb9 1).trans rfl
              have r2 := (blkCell hb9 2).trans rfl
              have r3 := (blkCell hb9 3).trans rfl
              have r4 := (blkCell hb9 4).trans rfl
              have r5 := (blkCell hb9 5).trans rfl
              have r6 := (blkCell hb9 6).trans rfl
              exact bodyPost_ret (v := .tuple #[.agg #[.int .i64 r, .int .i64 cn, .int .i64 1, .int .i64 ya, .int .i64 yb, .int .i64 0, .int .i64 sg], .bool true]) (by simp [results, Tryd.results40, go_sem, r0, r1, r2, r3, r4, r5, r6]) rfl ⟨.inr ⟨by simp [mayPut, mayMore, HO.out, HI.out, HZ.out, HIN.out, HSG.out], by rw [show ((0 : Int)).toNat = 0 from rfl, HOP.out]; rfl⟩, hbel9⟩
          · obtain ⟨k, rfl, hk1⟩ : ∃ k : Nat, t = (k : Int) + 1 ∧ k < (shownI (lvs l)).length := ⟨t.toNat - 1, by omega, by omega⟩
            obtain ⟨j, x, hj, hx, hjl⟩ := shown_leaf hk1
            have HLF : Hid (leftOf l (k + 1) = (x.a, x.b, j + 1)) := leftOf_succ hj hx
            have hS := (World.ownsRow.cellAt HS3.out k (by omega)).trans (natCells_at hj)
            obtain ⟨q0, q1, _, _⟩ := lfCells_at (lvs l) j x hx
            have z0 := (World.ownsRow.cellAt HRR.out (j * 4) (by omega)).trans q0
            have z1 := (World.ownsRow.cellAt HRR.out (j * 4 + 1) (by omega)).trans q1
            have hSl := (World.ownsRow.lt HS3.out S rfl).2
            have hGl := (World.ownsRow.lt HRR.out G rfl).2
            have hk' : (k : Int) < ((shownI (lvs l)).length : Int) := by omega
            have hj' : (j : Int) < ((lvs l).length : Int) := by omega
            have hj0 : (0 : Int) ≤ (j : Int) := by omega
            have hk0 : (0 : Int) ≤ (k : Int) := by omega
            have hk00 : (0 : Int) < (k : Int) + 1 := by omega
            have hjw : wrap64 ((j : Int) + 1) = (j : Int) + 1 := by have := HLN.out; simp only [wrap64]; omega
            generalize x.a = xa at *
            generalize x.b = xb at *
            clear q0 q1 hj hx
            go_wp2_with (first | (go_at_call 64; refine (l6In_any _ _ _ _).mono ?_; rintro e w' ⟨rfl, hw'⟩; subst hw'; rw [HIN.out]))
            have HAL := hideIt (HA.out.below ((Below.refl _ _).alloc (Nat.le_refl _) (.cells #[.int .i64 xa, .int .i64 xb] 30)))
            have hb0 : Below w'.heap.size w' (w'.alloc (.cells #[.int .i64 xa, .int .i64 xb] 30)) := (Below.refl _ _).alloc (Nat.le_refl _) _
            have D4 : Hid ((w'.alloc (.cells #[.int .i64 xa, .int .i64 xb] 30)).cell? ⟨w'.heap.size, 0, none⟩ = some (.int .i64 xa) ∧ (w'.alloc (.cells #[.int .i64 xa, .int .i64 xb] 30)).cell? ⟨w'.heap.size, 1, none⟩ = some (.int .i64 xb) ∧ w'.heap.size < (w'.alloc (.cells #[.int .i64 xa, .int .i64 xb] 30)).heap.size) := ⟨by simp [go_sem], by simp [go_sem], by simp⟩
            have HRK := hideIt (rowKeep HRR.out hb0)
            have a0 := ((bcell hb0).1 _ _ dl).trans d0
            have a1 := ((bcell hb0).1 _ _ dl).trans d1
            have al := Nat.lt_of_lt_of_le dl hb0.size
            have hd2 : w'.heap.size ≠ w.heap.size := by have := HA.out.lt; omega
            clear hb0
            generalize w'.alloc (.cells #[.int .i64 xa, .int .i64 xb] 30) = Wj at *
            generalize w'.heap.size = B2 at *
            refine (l2Kids_any l g cap _ _ _ _ (HL.out.below HAL.out.bel hgw) hn hcap).mono ?_
            rintro e w4 ⟨v, rfl, hrk, hb4⟩
            obtain ⟨pk, ck, rfl⟩ := row_len hrk
            have d0 := ((bcell hb4).1 _ _ al).trans a0
            have d1 := ((bcell hb4).1 _ _ al).trans a1
            have e0 := ((bcell hb4).1 _ _ D4.out.2.2).trans D4.out.1
            have e1 := ((bcell hb4).1 _ _ D4.out.2.2).trans D4.out.2.1
            have HR4 := hideIt (rowKeep HRK.out hb4)
            have hB14 : B1 < w4.heap.size := Nat.lt_of_lt_of_le al hb4.size
            have hB24 : B2 < w4.heap.size := Nat.lt_of_lt_of_le D4.out.2.2 hb4.size
            have HA := hideIt (HAL.out.below hb4)
            have hwl4 := HA.out.lt
            have nG : G ≠ w.heap.size := by have h1 := (World.ownsRow.lt HRR.out G rfl).1; have h2 := hGw.out.1; omega
            have hGl4 := (World.ownsRow.lt HR4.out G rfl).2
            clear hrk hb4 HAL HRK
            by_cases hK : kidsL l (xa, xb, 1) = []
            · have HOP : Hid (putO l r (k + 1) sg = ⟨r, cn, 1, xa, xb, 1, sg⟩) := by
                have h := putO_yes (l := l) (r := r) (sg := sg) (t := k + 1) (by rw [HLF.out]; exact hK)
                rw [HLF.out, HCN.out] at h
                exact h
              have hkn : (kidsL l (xa, xb, 1)).length = 0 := by rw [hK]; rfl
              rw [hkn]
              clear hK
              go_wp2_with (first | (refine wpList_store_row rfl 51 _ _ rfl w.heap.size _ rfl rfl 51 _ HA.out.box (by kernel_rfl) rfl (all7 _ _ _ _ _ _ _) ?_; have HST := hideIt (HA.out.stored r cn 1 xa xb 1 sg); generalize World.setRow _ _ _ = W9 at *))
              obtain ⟨hb9, hbel9⟩ := HST.out
              have r0 := (blkCell hb9 0).trans rfl
              have r1 := (blkCell hb9 1).trans rfl
              have r2 := (blkCell hb9 2).trans rfl
              have r3 := (blkCell hb9 3).trans rfl
              have r4 := (blkCell hb9 4).trans rfl
              have r5 := (blkCell hb9 5).trans rfl
              have r6 := (blkCell hb9 6).trans rfl
              exact bodyPost_ret (v := .tuple #[.agg #[.int .i64 r, .int .i64 cn, .int .i64 1, .int .i64 xa, .int .i64 xb, .int .i64 1, .int .i64 sg], .bool true]) (by simp [results, Tryd.results40, go_sem, r0, r1, r2, r3, r4, r5, r6]) rfl ⟨.inr ⟨by simp [mayPut, mayMore, HO.out, HI.out, HZ.out, HIN.out, HSG.out], by rw [show ((k : Int) + 1).toNat = k + 1 from (by omega), HOP.out]; rfl⟩, hbel9⟩
            · have hnx : (j + 1) < (lvs l).length := by
                have h := left_next (l := l) HO.out (t := k + 1) (by omega) (by rw [HLF.out]; exact hK)
                rw [HLF.out] at h
                exact h
              have hxn : (lvs l)[(j + 1)]? = some (lvs l)[(j + 1)] := by simp [hnx]
              have HOP : Hid (putO l r (k + 1) sg = ⟨r, cn, 1, (lvs l)[(j + 1)].a, (lvs l)[(j + 1)].b, 0, sg⟩) := by
                have h := putO_no (l := l) (r := r) (sg := sg) (t := k + 1) (by rw [HLF.out]; exact hK) (x := (lvs l)[(j + 1)]) (by rw [HLF.out]; exact hxn)
                rw [HCN.out] at h
                exact h
              obtain ⟨q0, q1, _, _⟩ := lfCells_at (lvs l) ((j + 1)) _ hxn
              have u0 := (World.ownsRow.cellAt HR4.out (((j + 1)) * 4) (by omega)).trans q0
              have u1 := (World.ownsRow.cellAt HR4.out (((j + 1)) * 4 + 1) (by omega)).trans q1
              have hkp : 0 < (kidsL l (xa, xb, 1)).length := List.length_pos_iff.2 hK
              generalize (lvs l)[(j + 1)].a = ya at *
              generalize (lvs l)[(j + 1)].b = yb at *
              generalize (kidsL l (xa, xb, 1)).length = kn at *
              clear hK hxn q0 q1
              have hkp' : ¬ ((kn : Int) = 0) := by omega
              have hnx' : ((j : Int) + 1 : Int) < ((lvs l).length : Int) := by omega
              have hnx0 : (0 : Int) ≤ (j : Int) + 1 := by omega
              have hnt : ((j : Int) + 1).toNat = j + 1 := by omega
              have ks1 : (Instr.storeAt 51 (.pointer (some ⟨w.heap.size, 0, none⟩)) (.agg #[.int .i64 r, .int .i64 cn, .int .i64 1, .int .i64 ya, .int .i64 yb, .int .i64 0, .int .i64 sg])).run Tryd.prog w4.drew = .ok () (w4.drew.setRow w.heap.size #[.int .i64 r, .int .i64 cn, .int .i64 1, .int .i64 ya, .int .i64 yb, .int .i64 0, .int .i64 sg]) := store_op w4.drew w.heap.size _ HA.out.box rfl r cn 1 ya yb 0 sg
              have HST := hideIt ((HA.out.below ((Below.refl _ _).drew)).stored r cn 1 ya yb 0 sg)
              have K9 : Hid ((w4.drew.setRow w.heap.size #[.int .i64 r, .int .i64 cn, .int .i64 1, .int .i64 ya, .int .i64 yb, .int .i64 0, .int .i64 sg]).cell? ⟨B1, 0, none⟩ = some (.int .i64 r) ∧ (w4.drew.setRow w.heap.size #[.int .i64 r, .int .i64 cn, .int .i64 1, .int .i64 ya, .int .i64 yb, .int .i64 0, .int .i64 sg]).cell? ⟨B1, 1, none⟩ = some (.int .i64 cn) ∧ (w4.drew.setRow w.heap.size #[.int .i64 r, .int .i64 cn, .int .i64 1, .int .i64 ya, .int .i64 yb, .int .i64 0, .int .i64 sg]).cell? ⟨G, (j + 1) * 4, none⟩ = some (.int .i64 ya) ∧ (w4.drew.setRow w.heap.size #[.int .i64 r, .int .i64 cn, .int .i64 1, .int .i64 ya, .int .i64 yb, .int .i64 0, .int .i64 sg]).cell? ⟨G, (j + 1) * 4 + 1, none⟩ = some (.int .i64 yb)) :=
                ⟨setRow_cell (W := w4.drew) hdd d0, setRow_cell (W := w4.drew) hdd d1, setRow_cell (W := w4.drew) nG u0, setRow_cell (W := w4.drew) nG u1⟩
              go_wp2
              go_region_held3 (fun w' => w'.cell? ⟨B1, 0, none⟩ = some (.int .i64 r) ∧ w'.cell? ⟨B1, 1, none⟩ = some (.int .i64 cn) ∧ w'.cell? ⟨G, (j + 1) * 4, none⟩ = some (.int .i64 ya) ∧ w'.cell? ⟨G, (j + 1) * 4 + 1, none⟩ = some (.int .i64 yb))
                (first | exact ⟨d0, d1, u0, u1⟩ | exact K9.out)
                (fail)
              rename_i hHH
              clear hHH K9
              generalize World.setRow _ _ _ = W9 at *
              go_wp2
              obtain ⟨hb9, hbel9⟩ := HST.out
              have r0 := (blkCell hb9 0).trans rfl
              have r1 := (blkCell hb9 1).trans rfl
              have r2 := (blkCell hb9 2).trans rfl
              have r3 := (blkCell hb9 3).trans rfl
              have r4 := (blkCell hb9 4).trans rfl
              have r5 := (blkCell hb9 5).trans rfl
              have r6 := (blkCell hb9 6).trans rfl
              exact bodyPost_ret (v := .tuple #[.agg #[.int .i64 r, .int .i64 cn, .int .i64 1, .int .i64 ya, .int .i64 yb, .int .i64 0, .int .i64 sg], .bool true]) (by simp [results, Tryd.results40, go_sem, r0, r1, r2, r3, r4, r5, r6]) rfl ⟨.inr ⟨by simp [mayPut, mayMore, HO.out, HI.out, HZ.out, HIN.out, HSG.out], by rw [show ((k : Int) + 1).toNat = k + 1 from (by omega), HOP.out]; rfl⟩, hbel9⟩
end Go.Proofs.YtkbogcbppenaaaaDoor

namespace Go.Proofs.YtkbogcbppenaaaaDoor
open Go.RowKit
/-- A thing stored whole into its new box. -/
theorem store_op_new (w : World) (a1 a2 a3 a4 a5 a6 a7 : Int) : (Instr.storeAt 51 (.pointer (some ⟨w.heap.size, 0, none⟩)) (.agg #[.int .i64 a1, .int .i64 a2, .int .i64 a3, .int .i64 a4, .int .i64 a5, .int .i64 a6, .int .i64 a7])).run Tryd.prog (w.alloc (.cells #[.int .i64 0, .int .i64 0, .int .i64 0, .int .i64 0, .int .i64 0, .int .i64 0, .int .i64 0] 51)) = .ok () (w.alloc (.cells #[.int .i64 a1, .int .i64 a2, .int .i64 a3, .int .i64 a4, .int .i64 a5, .int .i64 a6, .int .i64 a7] 51)) :=
  run_storeAt_new w 51 #[.int .i64 0, .int .i64 0, .int .i64 0, .int .i64 0, .int .i64 0, .int .i64 0, .int .i64 0] #[.int .i64 a1, .int .i64 a2, .int .i64 a3, .int .i64 a4, .int .i64 a5, .int .i64 a6, .int .i64 a7] (by kernel_rfl) rfl (by simp [Value.oneCell'])
end Go.Proofs.YtkbogcbppenaaaaDoor
