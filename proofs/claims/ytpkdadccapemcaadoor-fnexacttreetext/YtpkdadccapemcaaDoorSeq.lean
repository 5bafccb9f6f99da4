/- The iterator over leaves, and what slices.Collect makes of it. -/
import Derived.Test.YtpkdadccapemcaaDoorEach
import Derived.RangeFuncBox
namespace Go.Proofs.YtpkdadccapemcaaDoor
open Go.RowKit Go.Shelf
set_option linter.unusedSimpArgs false
set_option linter.unusedVariables false
attribute [local go_sem] Oper.semAt_some

theorem leaves_any (v1 v2 v3 : Value) (w : World) (h : v1.cells = #[v1] ∧ v2.cells = #[v2] ∧ v3.cells = #[v3]) (b1 b2 b3 : Nat) (hv : v1 = .map (some b1) ∧ v2 = .map (some b2) ∧ v3 = .map (some b3)) :
    Calls Tryd.prog 32 #[.agg #[v1, v2, v3]] w fun e w' => e = .returned (.func (.func 49) #[] #[.pointer (some ⟨w.heap.size, 0, none⟩)]) ∧ w' = w.alloc (.cells #[v1, v2, v3] 55) := by
  obtain ⟨rfl, rfl, rfl⟩ := hv
  go_enter Tryd.func32, Tryd.ntmps32
  go_wp2
  go_ret
  exact ⟨rfl, rfl⟩

/-- A leaf as a value. -/
def lfV (x : Lf) : Value := .agg #[.int .i64 x.a, .int .i64 x.b, .int .i64 x.g, .bool x.z]

set_option maxRecDepth 100000 in
set_option maxHeartbeats 2000000 in
theorem leaves1_in (l : List Op7) (hops : opsB l = true) (hn : l.length ≤ 1048576) (w0 : World) (b1 b2 b3 base : Nat) (hT : TreeAt w0 b1 b2 b3 base l) (lp B : Nat) (J Jx : List Lf → World → Prop) (hJ : AbidesFrom B J)
    (hY : ∀ m pre (x : Lf) W, J pre W → pre.length < (allO l).length → YieldAt Fence.wide m Tryd.prog lp #[lfV x] W fun e W' =>
      (e = .returned (.bool true) ∧ J (pre ++ [x]) W' ∧ KpT w0.heap.size W W') ∨ (e = .returned (.bool false) ∧ Jx (pre ++ [x]) W'))
    (k Bt : Nat) (W : World) (hW : Below w0.heap.size w0 W) (h0 : J [] W) (hB : W.heap[Bt]? = some (.cells #[.map (some b1), .map (some b2), .map (some b3)] 55 (0, 0))) :
    CallsIn Fence.wide k Tryd.prog 49 #[.func (.yield lp) #[] #[], .pointer (some ⟨Bt, 0, none⟩)] W fun e W' => (∃ v, e = .returned v) ∧ ((∃ xs, xs = lfs l (allO l) ∧ J xs W') ∨ (∃ pre, True ∧ Jx pre W')) := by
  have hK := eachKid_in l hops hn w0 b1 b2 b3 base hT lp B (allO l).length J Jx hJ hY (l.length + 2) 0 0 0 1 Up.zero (.inr rfl) (by omega)
  have HK := hideIt hK
  have ct0 := (blk_cell hB 0).trans rfl
  have ct1 := (blk_cell hB 1).trans rfl
  have ct2 := (blk_cell hB 2).trans rfl
  clear hK hY hT
  refine callsIn_of_wp Tryd.func49 rfl trivial ?_ rfl
  simp only [Tryd.ntmps49, List.size_toArray, List.length_cons, List.length_nil, Nat.reduceAdd, Nat.reduceSub, Array.replicate_succ, Array.replicate_zero, List.push_toArray, List.append_toArray, List.nil_append, List.cons_append]
  gi_wp2
  refine ⟨trivial, (fun h => by cases h), ?_⟩
  refine (HK.out _ [] _ hW h0 (by simp [lfs_len, allO])).mono ?_
  rintro e W5 (⟨rfl, hJ5, hK5⟩ | ⟨rfl, q, hq⟩)
  · gi_wp2
    go_end0
    exact ⟨⟨_, rfl⟩, .inl ⟨_, rfl, by have h := hJ5; rw [List.nil_append] at h; exact h⟩⟩
  · gi_wp2
    go_end0
    exact ⟨⟨_, rfl⟩, .inr ⟨q, trivial, hq⟩⟩

theorem leaves_stops (l : List Op7) (hops : opsB l = true) (hn : l.length ≤ 1048576) (w0 : World) (b1 b2 b3 base : Nat) (hT : TreeAt w0 b1 b2 b3 base l) (n Bt : Nat) (w : World) (hW : Below w0.heap.size w0 w)
    (hB : w.heap[Bt]? = some (.cells #[.map (some b1), .map (some b2), .map (some b3)] 55 (0, 0))) :
    SeqStopsK Fence.wide n Tryd.prog 49 #[.pointer (some ⟨Bt, 0, none⟩)] (fun x : Lf => #[lfV x]) (KpT w0.heap.size) (fun ys => ys = lfs l (allO l)) (fun _ => True) (allO l).length w := fun lp J Jx W hb hJ hJx hY h0 =>
  leaves1_in l hops hn w0 b1 b2 b3 base hT lp W.heap.size J Jx hJ (fun m pre x W1 h1 h2 => yield_any rfl m (hY pre x W1 h1 h2)) n Bt W (hW.trans (hb.mono hW.size)) h0
    ((hb.block Bt (Array.getElem?_eq_some_iff.1 hB).1).trans hB)

theorem kpT_b {n0 : Nat} {w : World} (hn : n0 ≤ w.heap.size) (W : World) (l : Nat) (o o' : Obj) (hl : w.heap.size ≤ l) (h : W.heap[l]? = some o) (hc : o.isCells = false) (hw : o.isWalk = false) : KpT n0 W (W.putObj l o') :=
  ⟨belowK_b hn W l o o' hl h hc hw, fun b cur T fr hb _ => World.putObj_heap_other (fun e => by subst e; rw [hb] at h; cases h; cases hc)⟩
/-- A row of leaves, and a box, are none of the walk's own blocks. -/
theorem kpT_row {n0 : Nat} {W W' : World} {row : Option Nat} (hn : n0 ≤ W.heap.size) (hg : W.grownBy W' row) (hr : ∀ j, row = some j → n0 ≤ j ∧ ∃ cur T fr, W.heap[j]? = some (.cells cur T fr) ∧ ¬ (T = 55 ∨ T = 73 ∨ T = 77)) : KpT n0 W W' :=
  ⟨(Below.refl n0 W).grown hg hn (fun k e => (hr k e).1), fun b cur T fr hb hT => hg.block b (Array.getElem?_eq_some_iff.1 hb).1 (fun e => by
    obtain ⟨_, cur', T', fr', h1, h2⟩ := hr b e.symm
    rw [hb] at h1
    cases h1
    exact h2 hT)⟩
theorem own_type {W : World} {b : Nat} {T : TypeId} {m : Nat} {v : Value} {n : Nat} {xs : List Value} (h : W.ownsRow b T m v n xs) {j : Nat} (e : v.ownBlock = some j) (hT : ¬ (T = 55 ∨ T = 73 ∨ T = 77)) : ∃ cur T fr, W.heap[j]? = some (.cells cur T fr) ∧ ¬ (T = 55 ∨ T = 73 ∨ T = 77) := by
  rcases h.2 with ⟨rfl, _⟩ | ⟨g, cap, cur, rfl, _, hg, _⟩
  · cases e
  · obtain rfl : g = j := by simpa [Value.ownBlock] using e
    exact ⟨cur, T, _, hg, hT⟩
theorem lf_one : ∀ {a b g : Int} {z : Bool}, ∀ u ∈ [Value.int .i64 a, .int .i64 b, .int .i64 g, .bool z], u.oneCell' = true := by
  intro a b g z u hu
  simp at hu
  rcases hu with rfl | rfl | rfl | rfl <;> rfl
theorem lfCells_more (L : List Lf) (x : Lf) : lfCells (L ++ [x]) = lfCells L ++ [.int .i64 x.a, .int .i64 x.b, .int .i64 x.g, .bool x.z] := by simp [lfCells]

set_option maxRecDepth 100000 in
set_option maxHeartbeats 2000000 in
theorem appendSeq_in (l : List Op7) (hops : opsB l = true) (hn : l.length ≤ 1048576) (w0 : World) (b1 b2 b3 base : Nat) (hT : TreeAt w0 b1 b2 b3 base l) (n Bt : Nat) (h2 : 2 ≤ n) (w : World) (hW : Below w0.heap.size w0 w)
    (hB : w.heap[Bt]? = some (.cells #[.map (some b1), .map (some b2), .map (some b3)] 55 (0, 0))) :
    CallsIn Fence.wide n Tryd.prog 48 #[.slice none 0 0, .func (.func 49) #[] #[.pointer (some ⟨Bt, 0, none⟩)]] w fun e w' => ∃ v, e = .returned v ∧ w'.ownsRow w.heap.size 63 4 v (lfs l (allO l)).length (lfCells (lfs l (allO l))) ∧ Below w.heap.size w w' := by
  have h1 : 1 ≤ n := by omega
  have hlen : (allO l).length ≤ 1048576 := Nat.le_trans (all_len hops) hn
  obtain ⟨i0, hi, hz0, hz1, hz2⟩ := info_parts infoLeaf
  have HI1 := hideIt hi
  have HZ0 := hideIt hz0
  have HZ1 := hideIt hz1
  have HZ2 := hideIt hz2
  clear hi hz0 hz1 hz2
  have hsz : (w.alloc (.cells #[.slice none 0 0] 24)).heap.size = w.heap.size + 1 := by simp
  have hBw : Below w.heap.size w (w.alloc (.cells #[.slice none 0 0] 24)) := (Below.refl _ _).alloc (Nat.le_refl _) _
  have hn0 : w0.heap.size ≤ w.heap.size := hW.size
  have HSQ := hideIt (leaves_stops l hops hn w0 b1 b2 b3 base hT (n - 1) Bt (w.alloc (.cells #[.slice none 0 0] 24)) (hW.trans (hBw.mono hn0)) ((hBw.block Bt (Array.getElem?_eq_some_iff.1 hB).1).trans hB))
  clear hT hW hB
  refine callsIn_of_wp_marks Tryd.func48 rfl trivial ?_ rfl
  simp only [Tryd.ntmps48, List.size_toArray, List.length_cons, List.length_nil, Nat.reduceAdd, Nat.reduceSub, Array.replicate_succ, Array.replicate_zero, List.push_toArray, List.append_toArray, List.nil_append, List.cons_append]
  gi_wp2
  refine wpIn_rangeFunc_ownH rfl h1 (gf := 49) (lb := #[.pointer (some ⟨Bt, 0, none⟩)]) rfl trivial (enters_of Tryd.func49 (by kernel_rfl) rfl) HSQ.out
    (fun h k => h.trans k) (kpT_b (by omega)) (Below.refl _ _) (fun _ => rfl)
    (fun pre W => (∃ v, Boxed W w.heap.size 24 v ∧ W.ownsRow w.heap.size 63 4 v pre.length (lfCells pre) ∧ True) ∧ Below w.heap.size w W)
    (fun _ _ _ => False)
    (OwnFrom.and (Own.from (holdsRow_own w.heap.size w.heap.size 24 63 4 (fun pre : List Lf => pre.length) (fun pre => lfCells pre) (fun _ _ => True)) _) (ownFrom_below (Nat.le_refl _) (by omega)))
    (fun _ _ _ _ _ hs _ _ => hs)
    ⟨⟨_, Boxed.new _ _ _, World.ownsRow_nil _ _ _ _, trivial⟩, hBw⟩
    (fun x a' W => ∃ Bx, w.heap.size + 1 ≤ Bx ∧ W.heap[Bx]? = some (.cells #[.int .i64 x.a, .int .i64 x.b, .int .i64 x.g, .bool x.z] 63 (0, 0)) ∧ a' = { tmps := #[.slice none 0 0, .func (.func 49) #[] #[.pointer (some ⟨Bt, 0, none⟩)], .pointer (some ⟨w.heap.size, 0, none⟩), undef, .slice none 0 0, .pointer (some ⟨Bx, 0, none⟩), .func (.func 49) #[] #[.pointer (some ⟨Bt, 0, none⟩)], lfV x, undef, undef, undef, undef, undef], defers := [] })
    ?hAx ?assign ?body ?done ?stop
  case hAx =>
    rintro x a' _ A B row ⟨Bx, hb, hx, ha⟩ hg hr
    exact ⟨Bx, hb, (hg.block Bx (Array.getElem?_eq_some_iff.1 hx).1 (fun e => by obtain ⟨_, o, ho, hc⟩ := hr Bx e.symm; rw [hx] at ho; cases ho; cases hc)).trans hx, ha⟩
  case assign =>
    rintro lp pre x W K ⟨⟨v, bv, hrow, _⟩, hBl⟩ hK
    unfold lfV
    gi_wp2
    exact hK _ _ ((KeepsOthers.alloc _ _).from _) (KpT.of_below (by have := hBl.size; omega) ((Below.refl _ _).alloc (Nat.le_refl _) _)) ⟨⟨v, bv.alloc _, hrow.alloc _, trivial⟩, hBl.alloc hBl.size _⟩ ⟨W.heap.size, by have := bv.lt; omega, World.alloc_heap_new _ _, rfl⟩
  case body =>
    rintro lp pre x a' W hl ⟨rr, hr⟩ ⟨⟨v, bv, hrow, _⟩, hBl⟩ ⟨Bx, hbx, hx, rfl⟩ hlt
    have hc := bv.cell
    have x0 := (blk_cell hx 0).trans rfl
    have x1 := (blk_cell hx 1).trans rfl
    have x2 := (blk_cell hx 2).trans rfl
    have x3 := (blk_cell hx 3).trans rfl
    have HRW := hideIt hrow
    have HBL := hideIt hBl
    have HBV := hideIt bv
    have hwl : w.heap.size ≤ W.heap.size := hBl.size
    clear hrow hBl hr
    gi_wp2_with (first
      | (gi_at_builtin; refine wpListIn_append_own _ rfl _ _ 24 rfl w.heap.size 63 i0 _ 4 32 Tryd.underlying24 HI1.out HZ0.out HZ1.out HZ2.out rfl (by decide) _ _ _ rfl (HRW.out.alloc _) ⟨W.heap.size, 0, none⟩ 1 1 [.int .i64 x.a, .int .i64 x.b, .int .i64 x.g, .bool x.z] rfl rfl (cells_new W [.int .i64 x.a, .int .i64 x.b, .int .i64 x.g, .bool x.z] 63) lf_one (by unfold maxLen; omega) (by omega) (by simp; omega) ?_; intro v' w1 hown' hgrow _; obtain ⟨g', cap', rfl⟩ := ownsRow_succ hown'; obtain ⟨hv1, hv2, hr2, hk2, hb2⟩ := HBV.out.appended (by decide) HRW.out hwl (Nat.le_refl _) hown' hgrow; have hc1 := hv1.cell; have hf1 := hv1.frozen;
          have HKP : Hid (KpT w0.heap.size W (w1.setCell ⟨w.heap.size, 0, none⟩ (.slice (some ⟨g', 0, none⟩) (pre.length + 1) cap'))) := (KpT.of_below (by omega) ((Below.refl _ _).alloc (Nat.le_refl _) _)).trans ((kpT_row (by simp; omega) hgrow (fun j e => ⟨Nat.le_trans hn0 ((HRW.out.lt j e).1), own_type (HRW.out.alloc _) e (by decide)⟩)).trans (kpT_row (by have := hgrow.size; simp at this; omega) (grownBy_setCell' _ _ _) (fun j e => by cases e; exact ⟨hn0, _, _, _, hv1, by decide⟩)));
          have HV2 := hideIt hv2; have HR2 := hideIt hr2; have HK2 := hideIt hk2; have HB2 := hideIt hb2; clear hv2 hr2 hk2 hb2 hv1 hown' hgrow)
      | gi_in)
    exact ⟨HK2.out.from _, HKP.out, ⟨_, HV2.out, by rw [lfCells_more, List.length_append]; exact HR2.out, trivial⟩, HBL.out.trans HB2.out⟩
  case done =>
    rintro D ys W hD rfl ⟨⟨v, bv, hrow, _⟩, hBl⟩ hK
    have hc := bv.cell
    have hrow' := hrow
    rw [hsz] at hD
    rcases hrow.2 with ⟨rfl, _⟩ | ⟨g', cap', cur', rfl, _⟩
    all_goals
      gi_wp2
      refine ⟨by simp, .inl ⟨_, _, rfl, run_takeDeferred hK, ?_⟩⟩
      exact ⟨_, results_tmp rfl _ _ _, _, rfl, ownsRow_putObj hrow' _ hK rfl, hBl.trans (belowK_b (w := w) (Nat.le_refl _) W D _ _ (by omega) hK rfl rfl)⟩
  case stop =>
    rintro D c pre W _ _ h _
    exact h.elim

set_option maxRecDepth 100000 in
set_option maxHeartbeats 2000000 in
theorem collect_any (l : List Op7) (hops : opsB l = true) (hn : l.length ≤ 1048576) (w0 : World) (b1 b2 b3 base : Nat) (hT : TreeAt w0 b1 b2 b3 base l) (Bt : Nat) (w : World) (hW : Below w0.heap.size w0 w)
    (hB : w.heap[Bt]? = some (.cells #[.map (some b1), .map (some b2), .map (some b3)] 55 (0, 0))) :
    Calls Tryd.prog 31 #[.func (.func 49) #[] #[.pointer (some ⟨Bt, 0, none⟩)]] w fun e w' => ∃ v, e = .returned v ∧ w'.ownsRow w.heap.size 63 4 v (lfs l (allO l)).length (lfCells (lfs l (allO l))) ∧ Below w.heap.size w w' := by
  have HA := hideIt (callsIn_wide.1 (appendSeq_in l hops hn w0 b1 b2 b3 base hT 2 Bt (Nat.le_refl _) w hW hB))
  clear hT hW hB
  go_enter Tryd.func31, Tryd.ntmps31
  go_wp2_with fail
  refine HA.out.mono ?_
  rintro e w1 ⟨v, rfl, hr, hb⟩
  go_wp2
  go_ret
  exact ⟨_, rfl, hr, hb⟩

set_option maxRecDepth 100000 in
set_option maxHeartbeats 1000000 in
theorem implLeaves_any (l : List Op7) (g cap : Nat) (x : Addr) (w : World) (hl : OpsAt w g l) (hn : l.length ≤ 1048576) (hcap : l.length ≤ cap)
    (he : w.cell? ⟨0, 0, none⟩ = some (.iface 127 (.pointer (some x)))) (h0 : 0 < w.heap.size) :
    Calls Tryd.prog 10 #[.slice (some ⟨g, 0, none⟩) l.length cap] w fun e w' => ∃ v, e = .returned v ∧ w'.ownsRow w.heap.size 63 4 v (lfs l (standL l)).length (lfCells (lfs l (standL l))) ∧ Below w.heap.size w w' := by
  have HL := hideIt hl
  have hgw := hl.1
  clear hl
  go_enter Tryd.func10, Tryd.ntmps10
  go_wp2_with fail
  refine (treeOf_any l g cap x _ HL.out hn hcap he h0).mono ?_
  rintro e w1 ⟨(⟨ht, b1, b2, b3, base, rfl, hT⟩ | ⟨ht, rfl⟩), hb1⟩
  all_goals
    have HO := hideIt ht
    have HB1 := hideIt hb1
    have herr1 : w1.cell? ⟨0, 0, none⟩ = some (.iface 127 (.pointer (some x))) := errB HB1.out h0 he
    have hp1 : 0 < w1.heap.size := posB HB1.out h0
    clear ht hb1
  · have HTT := hideIt hT
    have HE : Hid (standL l = allO l) := by show standL l = allO l; unfold standL; rw [HO.out]; rfl
    clear hT
    go_wp2_with (first | (go_at_call 30; refine (is_nil x _).mono ?_; rintro e w'' ⟨rfl, rfl⟩))
    refine (leaves_any _ _ _ _ ⟨rfl, rfl, rfl⟩ b1 b2 b3 ⟨rfl, rfl, rfl⟩).mono ?_
    rintro e w2 ⟨rfl, hw2⟩
    have HW2 := hideIt hw2
    have hbb : Below w1.heap.size w1 w2 := by rw [hw2]; exact ((Below.refl _ _).alloc (Nat.le_refl _) _).alloc (by simp) _
    have hblk : w2.heap[(w1.alloc (.cells #[.map (some b1), .map (some b2), .map (some b3)] 55)).heap.size]? = some (.cells #[.map (some b1), .map (some b2), .map (some b3)] 55 (0, 0)) := by rw [hw2]; exact World.alloc_heap_new _ _
    rw [World.size_alloc] at hblk
    have HBB := hideIt hbb
    have HBK := hideIt hblk
    clear hbb hblk hw2
    go_wp2_with fail
    refine (collect_any l HO.out hn w1 b1 b2 b3 base HTT.out _ _ HBB.out HBK.out).mono ?_
    rintro e w3 ⟨v, rfl, hr, hb3⟩
    have HR3 := hideIt (ownsRow_base (Nat.le_trans HB1.out.size HBB.out.size) hr)
    have HB3 := hideIt (Bstep (Bstep HB1.out HBB.out) hb3)
    clear hr hb3
    go_wp2
    go_ret
    rw [HE.out]
    exact ⟨_, rfl, HR3.out, HB3.out⟩
  · have HE : Hid (standL l = []) := by show standL l = []; unfold standL; rw [HO.out]; rfl
    go_wp2_with (first | (go_at_call 30; refine (is_same x _).mono ?_; rintro e w'' ⟨rfl, rfl⟩))
    go_ret
    rw [HE.out]
    exact ⟨_, rfl, World.ownsRow_nil _ _ _ _, HB1.out.alloc HB1.out.size _⟩
end Go.Proofs.YtpkdadccapemcaaDoor
