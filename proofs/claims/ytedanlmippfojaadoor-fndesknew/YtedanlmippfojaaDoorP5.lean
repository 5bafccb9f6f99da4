/- The contract of the program's signAhead. -/
import Derived.Test.YtedanlmippfojaaDoorP4
import Derived.RangeFuncBox
import Derived.Stop.RegionWithIn
import Derived.Test.YtedanlmippfojaaDoorP1
namespace Go.Proofs.YtedanlmippfojaaDoor
open Go.RowKit Go.Shelf
set_option linter.unusedSimpArgs false
set_option linter.unusedVariables false
attribute [local go_sem] Oper.semAt_some

theorem leaves_any (v1 v2 v3 : Value) (w : World) (h : v1.cells = #[v1] ∧ v2.cells = #[v2] ∧ v3.cells = #[v3]) (b1 b2 b3 : Nat) (hv : v1 = .map (some b1) ∧ v2 = .map (some b2) ∧ v3 = .map (some b3)) :
    Calls Tryd.prog 77 #[.agg #[v1, v2, v3]] w fun e w' => e = .returned (.func (.func 118) #[] #[.pointer (some ⟨w.heap.size, 0, none⟩)]) ∧ w' = w.alloc (.cells #[v1, v2, v3] 107) := by
  obtain ⟨rfl, rfl, rfl⟩ := hv
  go_enter Tryd.func77, Tryd.ntmps77
  go_wp2
  go_ret
  exact ⟨rfl, rfl⟩

/-- A leaf as a value. -/
def lfV (x : Lf) : Value := .agg #[.int .i64 x.a, .int .i64 x.b, .int .i64 x.g, .bool x.z]

set_option maxRecDepth 100000 in
set_option maxHeartbeats 2000000 in
theorem leaves1_in (l : List Op7) (hops : opsB l = true) (hn : l.length ≤ 1048576) (w0 : World) (b1 b2 b3 base : Nat) (hT : TreeAt w0 b1 b2 b3 base l) (lp B : Nat) (J Jx : List Lf → World → Prop) (hJ : AbidesFrom B J)
    (hY : ∀ m pre (x : Lf) W, J pre W → pre.length < (allO l).length → YieldAt Fence.wide m Tryd.prog lp #[lfV x] W fun e W' =>
      (e = .returned (.bool true) ∧ J (pre ++ [x]) W' ∧ KpT w0.heap.size W W') ∨ (e = .returned (.bool false) ∧ Jx (pre ++ [x]) W'))
    (k Bt : Nat) (W : World) (hW : Below w0.heap.size w0 W) (h0 : J [] W) (hB : W.heap[Bt]? = some (.cells #[.map (some b1), .map (some b2), .map (some b3)] 107 (0, 0))) :
    CallsIn Fence.wide k Tryd.prog 118 #[.func (.yield lp) #[] #[], .pointer (some ⟨Bt, 0, none⟩)] W fun e W' => (∃ v, e = .returned v) ∧ ((∃ xs, xs = lfs l (allO l) ∧ J xs W') ∨ (∃ pre, (∃ t, pre ++ t = lfs l (allO l)) ∧ Jx pre W')) := by
  have hK := eachKid_in l hops hn w0 b1 b2 b3 base hT lp B (allO l).length J Jx hJ hY (l.length + 2) 0 0 0 1 Up.zero (.inr rfl) (by omega)
  have HK := hideIt hK
  have ct0 := (blk_cell hB 0).trans rfl
  have ct1 := (blk_cell hB 1).trans rfl
  have ct2 := (blk_cell hB 2).trans rfl
  clear hK hY hT
  refine callsIn_of_wp Tryd.func118 rfl trivial ?_ rfl
  simp only [Tryd.ntmps118, List.size_toArray, List.length_cons, List.length_nil, Nat.reduceAdd, Nat.reduceSub, Array.replicate_succ, Array.replicate_zero, List.push_toArray, List.append_toArray, List.nil_append, List.cons_append]
  gi_wp2
  refine ⟨trivial, (fun h => by cases h), ?_⟩
  refine (HK.out _ [] _ hW h0 (by simp [lfs_len, allO])).mono ?_
  rintro e W5 (⟨rfl, hJ5, hK5⟩ | ⟨rfl, q, t, hqt, hq⟩)
  · gi_wp2
    go_end0
    exact ⟨⟨_, rfl⟩, .inl ⟨_, rfl, by have h := hJ5; rw [List.nil_append] at h; exact h⟩⟩
  · gi_wp2
    go_end0
    exact ⟨⟨_, rfl⟩, .inr ⟨q, ⟨t, by rw [List.nil_append] at hqt; exact hqt⟩, hq⟩⟩

theorem leaves_stops (l : List Op7) (hops : opsB l = true) (hn : l.length ≤ 1048576) (w0 : World) (b1 b2 b3 base : Nat) (hT : TreeAt w0 b1 b2 b3 base l) (n Bt : Nat) (w : World) (hW : Below w0.heap.size w0 w)
    (hB : w.heap[Bt]? = some (.cells #[.map (some b1), .map (some b2), .map (some b3)] 107 (0, 0))) :
    SeqStopsK Fence.wide n Tryd.prog 118 #[.pointer (some ⟨Bt, 0, none⟩)] (fun x : Lf => #[lfV x]) (KpT w0.heap.size) (fun ys => ys = lfs l (allO l)) (fun pre => ∃ t, pre ++ t = lfs l (allO l)) (allO l).length w := fun lp J Jx W hb hJ hJx hY h0 =>
  leaves1_in l hops hn w0 b1 b2 b3 base hT lp W.heap.size J Jx hJ (fun m pre x W1 h1 h2 => yield_any rfl m (hY pre x W1 h1 h2)) n Bt W (hW.trans (hb.mono hW.size)) h0
    ((hb.block Bt (Array.getElem?_eq_some_iff.1 hB).1).trans hB)

theorem kpT_b {n0 : Nat} {w : World} (hn : n0 ≤ w.heap.size) (W : World) (l : Nat) (o o' : Obj) (hl : w.heap.size ≤ l) (h : W.heap[l]? = some o) (hc : o.isCells = false) (hw : o.isWalk = false) : KpT n0 W (W.putObj l o') :=
  ⟨belowK_b hn W l o o' hl h hc hw, fun b cur T fr hb _ => World.putObj_heap_other (fun e => by subst e; rw [hb] at h; cases h; cases hc)⟩
/-- A row of leaves, and a box, are none of the walk's own blocks. -/
theorem kpT_row {n0 : Nat} {W W' : World} {row : Option Nat} (hn : n0 ≤ W.heap.size) (hg : W.grownBy W' row) (hr : ∀ j, row = some j → n0 ≤ j ∧ ∃ cur T fr, W.heap[j]? = some (.cells cur T fr) ∧ ¬ (T = 107 ∨ T = 132 ∨ T = 136)) : KpT n0 W W' :=
  ⟨(Below.refl n0 W).grown hg hn (fun k e => (hr k e).1), fun b cur T fr hb hT => hg.block b (Array.getElem?_eq_some_iff.1 hb).1 (fun e => by
    obtain ⟨_, cur', T', fr', h1, h2⟩ := hr b e.symm
    rw [hb] at h1
    cases h1
    exact h2 hT)⟩
theorem own_type {W : World} {b : Nat} {T : TypeId} {m : Nat} {v : Value} {n : Nat} {xs : List Value} (h : W.ownsRow b T m v n xs) {j : Nat} (e : v.ownBlock = some j) (hT : ¬ (T = 107 ∨ T = 132 ∨ T = 136)) : ∃ cur T fr, W.heap[j]? = some (.cells cur T fr) ∧ ¬ (T = 107 ∨ T = 132 ∨ T = 136) := by
  rcases h.2 with ⟨rfl, _⟩ | ⟨g, cap, cur, rfl, _, hg, _⟩
  · cases e
  · obtain rfl : g = j := by simpa [Value.ownBlock] using e
    exact ⟨cur, T, _, hg, hT⟩
theorem lf_one : ∀ {a b g : Int} {z : Bool}, ∀ u ∈ [Value.int .i64 a, .int .i64 b, .int .i64 g, .bool z], u.oneCell' = true := by
  intro a b g z u hu
  simp at hu
  rcases hu with rfl | rfl | rfl | rfl <;> rfl
theorem lfCells_more (L : List Lf) (x : Lf) : lfCells (L ++ [x]) = lfCells L ++ [.int .i64 x.a, .int .i64 x.b, .int .i64 x.g, .bool x.z] := by simp [lfCells]

set_option maxRecDepth 100000 in
set_option maxHeartbeats 2000000 in
theorem appendSeq_in (l : List Op7) (hops : opsB l = true) (hn : l.length ≤ 1048576) (w0 : World) (b1 b2 b3 base : Nat) (hT : TreeAt w0 b1 b2 b3 base l) (n Bt : Nat) (h2 : 2 ≤ n) (w : World) (hW : Below w0.heap.size w0 w)
    (hB : w.heap[Bt]? = some (.cells #[.map (some b1), .map (some b2), .map (some b3)] 107 (0, 0))) :
    CallsIn Fence.wide n Tryd.prog 120 #[.slice none 0 0, .func (.func 118) #[] #[.pointer (some ⟨Bt, 0, none⟩)]] w fun e w' => ∃ v, e = .returned v ∧ w'.ownsRow w.heap.size 44 4 v (lfs l (allO l)).length (lfCells (lfs l (allO l))) ∧ Below w.heap.size w w' := by
  have h1 : 1 ≤ n := by omega
  have hlen : (allO l).length ≤ 1048576 := Nat.le_trans (all_len hops) hn
  obtain ⟨i0, hi, hz0, hz1, hz2⟩ := info_parts infoLeaf
  have HI1 := hideIt hi
  have HZ0 := hideIt hz0
  have HZ1 := hideIt hz1
  have HZ2 := hideIt hz2
  clear hi hz0 hz1 hz2
  have hsz : (w.alloc (.cells #[.slice none 0 0] 40)).heap.size = w.heap.size + 1 := by simp
  have hBw : Below w.heap.size w (w.alloc (.cells #[.slice none 0 0] 40)) := (Below.refl _ _).alloc (Nat.le_refl _) _
  have hn0 : w0.heap.size ≤ w.heap.size := hW.size
  have HSQ := hideIt (leaves_stops l hops hn w0 b1 b2 b3 base hT (n - 1) Bt (w.alloc (.cells #[.slice none 0 0] 40)) (hW.trans (hBw.mono hn0)) ((hBw.block Bt (Array.getElem?_eq_some_iff.1 hB).1).trans hB))
  clear hT hW hB
  refine callsIn_of_wp_marks Tryd.func120 rfl trivial ?_ rfl
  simp only [Tryd.ntmps120, List.size_toArray, List.length_cons, List.length_nil, Nat.reduceAdd, Nat.reduceSub, Array.replicate_succ, Array.replicate_zero, List.push_toArray, List.append_toArray, List.nil_append, List.cons_append]
  gi_wp2
  refine wpIn_rangeFunc_ownH rfl h1 (gf := 118) (lb := #[.pointer (some ⟨Bt, 0, none⟩)]) rfl trivial (enters_of Tryd.func118 (by kernel_rfl) rfl) HSQ.out
    (fun h k => h.trans k) (kpT_b (by omega)) (Below.refl _ _) (fun _ => rfl)
    (fun pre W => (∃ v, Boxed W w.heap.size 40 v ∧ W.ownsRow w.heap.size 44 4 v pre.length (lfCells pre) ∧ True) ∧ Below w.heap.size w W)
    (fun _ _ _ => False)
    (OwnFrom.and (Own.from (holdsRow_own w.heap.size w.heap.size 40 44 4 (fun pre : List Lf => pre.length) (fun pre => lfCells pre) (fun _ _ => True)) _) (ownFrom_below (Nat.le_refl _) (by omega)))
    (fun _ _ _ _ _ hs _ _ => hs)
    ⟨⟨_, Boxed.new _ _ _, World.ownsRow_nil _ _ _ _, trivial⟩, hBw⟩
    (fun x a' W => ∃ Bx, w.heap.size + 1 ≤ Bx ∧ W.heap[Bx]? = some (.cells #[.int .i64 x.a, .int .i64 x.b, .int .i64 x.g, .bool x.z] 44 (0, 0)) ∧ a' = { tmps := #[.slice none 0 0, .func (.func 118) #[] #[.pointer (some ⟨Bt, 0, none⟩)], .pointer (some ⟨w.heap.size, 0, none⟩), undef, .slice none 0 0, .pointer (some ⟨Bx, 0, none⟩), .func (.func 118) #[] #[.pointer (some ⟨Bt, 0, none⟩)], lfV x, undef, undef, undef, undef, undef], defers := [] })
    ?hAx ?assign ?body ?done ?stop
  case hAx =>
    rintro x a' _ A B row ⟨Bx, hb, hx, ha⟩ hg hr
    exact ⟨Bx, hb, (hg.block Bx (Array.getElem?_eq_some_iff.1 hx).1 (fun e => by obtain ⟨_, o, ho, hc⟩ := hr Bx e.symm; rw [hx] at ho; cases ho; cases hc)).trans hx, ha⟩
  case assign =>
    rintro lp pre x W K ⟨⟨v, bv, hrow, _⟩, hBl⟩ hK
    unfold lfV
    gi_wp2
    exact hK _ _ ((KeepsOthers.alloc _ _).from _) (KpT.of_below (by have := hBl.size; omega) ((Below.refl _ _).alloc (Nat.le_refl _) _)) ⟨⟨v, bv.alloc _, hrow.alloc _, trivial⟩, hBl.alloc hBl.size _⟩ ⟨W.heap.size, by have := bv.lt; omega, World.alloc_heap_new _ _, rfl⟩
  case body =>
    rintro lp pre x a' W hl ⟨rr, hr⟩ ⟨⟨v, bv, hrow, _⟩, hBl⟩ ⟨Bx, hbx, hx, rfl⟩ hlt
    have hc := bv.cell
    have x0 := (blk_cell hx 0).trans rfl
    have x1 := (blk_cell hx 1).trans rfl
    have x2 := (blk_cell hx 2).trans rfl
    have x3 := (blk_cell hx 3).trans rfl
    have HRW := hideIt hrow
    have HBL := hideIt hBl
    have HBV := hideIt bv
    have hwl : w.heap.size ≤ W.heap.size := hBl.size
    clear hrow hBl hr
    gi_wp2_with (first
      | (gi_at_builtin; refine wpListIn_append_own _ rfl _ _ 40 rfl w.heap.size 44 i0 _ 4 32 Tryd.underlying40 HI1.out HZ0.out HZ1.out HZ2.out rfl (by decide) _ _ _ rfl (HRW.out.alloc _) ⟨W.heap.size, 0, none⟩ 1 1 [.int .i64 x.a, .int .i64 x.b, .int .i64 x.g, .bool x.z] rfl rfl (cells_new W [.int .i64 x.a, .int .i64 x.b, .int .i64 x.g, .bool x.z] 44) lf_one (by unfold maxLen; omega) (by omega) (by simp; omega) ?_; intro v' w1 hown' hgrow _; obtain ⟨g', cap', rfl⟩ := ownsRow_succ hown'; obtain ⟨hv1, hv2, hr2, hk2, hb2⟩ := HBV.out.appended (by decide) HRW.out hwl (Nat.le_refl _) hown' hgrow; have hc1 := hv1.cell; have hf1 := hv1.frozen;
          have HKP : Hid (KpT w0.heap.size W (w1.setCell ⟨w.heap.size, 0, none⟩ (.slice (some ⟨g', 0, none⟩) (pre.length + 1) cap'))) := (KpT.of_below (by omega) ((Below.refl _ _).alloc (Nat.le_refl _) _)).trans ((kpT_row (by simp; omega) hgrow (fun j e => ⟨Nat.le_trans hn0 ((HRW.out.lt j e).1), own_type (HRW.out.alloc _) e (by decide)⟩)).trans (kpT_row (by have := hgrow.size; simp at this; omega) (grownBy_setCell' _ _ _) (fun j e => by cases e; exact ⟨hn0, _, _, _, hv1, by decide⟩)));
          have HV2 := hideIt hv2; have HR2 := hideIt hr2; have HK2 := hideIt hk2; have HB2 := hideIt hb2; clear hv2 hr2 hk2 hb2 hv1 hown' hgrow)
      | gi_in)
    exact ⟨HK2.out.from _, HKP.out, ⟨_, HV2.out, by rw [lfCells_more, List.length_append]; exact HR2.out, trivial⟩, HBL.out.trans HB2.out⟩
  case done =>
    rintro D ys W hD rfl ⟨⟨v, bv, hrow, _⟩, hBl⟩ hK
    have hc := bv.cell
    have hrow' := hrow
    rw [hsz] at hD
    rcases hrow.2 with ⟨rfl, _⟩ | ⟨g', cap', cur', rfl, _⟩
    all_goals
      gi_wp2
      refine ⟨by simp, .inl ⟨_, _, rfl, run_takeDeferred hK, ?_⟩⟩
      exact ⟨_, results_tmp rfl _ _ _, _, rfl, ownsRow_putObj hrow' _ hK rfl, hBl.trans (belowK_b (w := w) (Nat.le_refl _) W D _ _ (by omega) hK rfl rfl)⟩
  case stop =>
    rintro D c pre W _ _ h _
    exact h.elim

set_option maxRecDepth 100000 in
set_option maxHeartbeats 2000000 in
theorem collect_any (l : List Op7) (hops : opsB l = true) (hn : l.length ≤ 1048576) (w0 : World) (b1 b2 b3 base : Nat) (hT : TreeAt w0 b1 b2 b3 base l) (Bt : Nat) (w : World) (hW : Below w0.heap.size w0 w)
    (hB : w.heap[Bt]? = some (.cells #[.map (some b1), .map (some b2), .map (some b3)] 107 (0, 0))) :
    Calls Tryd.prog 78 #[.func (.func 118) #[] #[.pointer (some ⟨Bt, 0, none⟩)]] w fun e w' => ∃ v, e = .returned v ∧ w'.ownsRow w.heap.size 44 4 v (lfs l (allO l)).length (lfCells (lfs l (allO l))) ∧ Below w.heap.size w w' := by
  have HA := hideIt (callsIn_wide.1 (appendSeq_in l hops hn w0 b1 b2 b3 base hT 2 Bt (Nat.le_refl _) w hW hB))
  clear hT hW hB
  go_enter Tryd.func78, Tryd.ntmps78
  go_wp2_with fail
  refine HA.out.mono ?_
  rintro e w1 ⟨v, rfl, hr, hb⟩
  go_wp2
  go_ret
  exact ⟨_, rfl, hr, hb⟩

set_option maxRecDepth 100000 in
set_option maxHeartbeats 1000000 in
theorem implLeaves_any (l : List Op7) (g cap : Nat) (x : Addr) (w : World) (hl : OpsAt w g l) (hn : l.length ≤ 1048576) (hcap : l.length ≤ cap)
    (he : w.cell? ⟨0, 0, none⟩ = some (.iface 203 (.pointer (some x)))) (h0 : 0 < w.heap.size) :
    Calls Tryd.prog 24 #[.slice (some ⟨g, 0, none⟩) l.length cap] w fun e w' => ∃ v, e = .returned v ∧ w'.ownsRow w.heap.size 44 4 v (lfs l (standL l)).length (lfCells (lfs l (standL l))) ∧ Below w.heap.size w w' := by
  have HL := hideIt hl
  have hgw := hl.1
  clear hl
  go_enter Tryd.func24, Tryd.ntmps24
  go_wp2_with fail
  refine (treeOf_any l g cap x _ HL.out hn hcap he h0).mono ?_
  rintro e w1 ⟨(⟨ht, b1, b2, b3, base, rfl, hT⟩ | ⟨ht, rfl⟩), hb1⟩
  all_goals
    have HO := hideIt ht
    have HB1 := hideIt hb1
    have herr1 : w1.cell? ⟨0, 0, none⟩ = some (.iface 203 (.pointer (some x))) := errB HB1.out h0 he
    have hp1 : 0 < w1.heap.size := posB HB1.out h0
    clear ht hb1
  · have HTT := hideIt hT
    have HE : Hid (standL l = allO l) := by show standL l = allO l; unfold standL; rw [HO.out]; rfl
    clear hT
    go_wp2_with (first | (go_at_call 68; refine (is_nil x _).mono ?_; rintro e w'' ⟨rfl, rfl⟩))
    refine (leaves_any _ _ _ _ ⟨rfl, rfl, rfl⟩ b1 b2 b3 ⟨rfl, rfl, rfl⟩).mono ?_
    rintro e w2 ⟨rfl, hw2⟩
    have HW2 := hideIt hw2
    have hbb : Below w1.heap.size w1 w2 := by rw [hw2]; exact ((Below.refl _ _).alloc (Nat.le_refl _) _).alloc (by simp) _
    have hblk : w2.heap[(w1.alloc (.cells #[.map (some b1), .map (some b2), .map (some b3)] 107)).heap.size]? = some (.cells #[.map (some b1), .map (some b2), .map (some b3)] 107 (0, 0)) := by rw [hw2]; exact World.alloc_heap_new _ _
    rw [World.size_alloc] at hblk
    have HBB := hideIt hbb
    have HBK := hideIt hblk
    clear hbb hblk hw2
    go_wp2_with fail
    refine (collect_any l HO.out hn w1 b1 b2 b3 base HTT.out _ _ HBB.out HBK.out).mono ?_
    rintro e w3 ⟨v, rfl, hr, hb3⟩
    have HR3 := hideIt (ownsRow_base (Nat.le_trans HB1.out.size HBB.out.size) hr)
    have HB3 := hideIt (Bstep (Bstep HB1.out HBB.out) hb3)
    clear hr hb3
    go_wp2
    go_ret
    rw [HE.out]
    exact ⟨_, rfl, HR3.out, HB3.out⟩
  · have HE : Hid (standL l = []) := by show standL l = []; unfold standL; rw [HO.out]; rfl
    go_wp2_with (first | (go_at_call 68; refine (is_same x _).mono ?_; rintro e w'' ⟨rfl, rfl⟩))
    go_ret
    rw [HE.out]
    exact ⟨_, rfl, World.ownsRow_nil _ _ _ _, HB1.out.alloc HB1.out.size _⟩
end Go.Proofs.YtedanlmippfojaaDoor

namespace Go.Proofs.YtedanlmippfojaaDoor
open Go.RowKit Go.Shelf
set_option linter.unusedSimpArgs false
set_option linter.unusedVariables false
attribute [local go_sem] Oper.semAt_some

/-- A block of one's own stays, whatever the walk does with its records. -/
theorem own_blk {β : Type} (B b : Nat) (f : β → Array Value) (T : TypeId) : OwnFrom B (fun s W => W.heap[b]? = some (.cells (f s) T (0, 0))) := by
  intro s A B' row hx hg hr
  exact (hg.block b (Array.getElem?_eq_some_iff.1 hx).1 (fun e => by obtain ⟨_, o, ho, hc⟩ := hr b e.symm; rw [hx] at ho; cases ho; cases hc)).trans hx
theorem blk_below {W W' : World} {b : Nat} {o : Obj} (h : W.heap[b]? = some o) (hb : Below W.heap.size W W') : W'.heap[b]? = some o := (hb.block b (Array.getElem?_eq_some_iff.1 h).1).trans h
theorem blk_set {W : World} {b c : Nat} {o : Obj} {u : Value} (h : W.heap[b]? = some o) (hne : b ≠ c) : (W.setCell ⟨c, 0, none⟩ u).heap[b]? = some o :=
  ((grownBy_setCell' W c u).block b (Array.getElem?_eq_some_iff.1 h).1 (fun e => hne (by cases e; rfl))).trans h

theorem cell_put {W : World} {b c i : Nat} (o : Obj) (h : b ≠ c) : (W.putObj c o).cell? ⟨b, i, none⟩ = W.cell? ⟨b, i, none⟩ := by
  simp [World.cell?, World.putObj_heap_other h]
/-- Five blocks that were laid one behind the other. -/
theorem all5 (w : World) (o0 o1 o2 o3 o4 : Obj) (k : Nat) (hk : k < 5) : (((((w.alloc o0).alloc o1).alloc o2).alloc o3).alloc o4).heap[w.heap.size + k]? = [o0, o1, o2, o3, o4][k]? := by
  have e : (((((w.alloc o0).alloc o1).alloc o2).alloc o3).alloc o4).heap = ((((w.heap.push o0).push o1).push o2).push o3).push o4 := rfl
  rw [e]
  have : k = 0 ∨ k = 1 ∨ k = 2 ∨ k = 3 ∨ k = 4 := by omega
  rcases this with rfl | rfl | rfl | rfl | rfl <;> simp [Array.getElem?_push, Array.getElem_push, Nat.add_assoc]

set_option maxHeartbeats 1000000 in
theorem shows_any (a b g : Int) (z : Bool) (w : World) :
    Calls Tryd.prog 87 #[.agg #[.int .i64 a, .int .i64 b, .int .i64 g, .bool z]] w fun e w' => e = .returned (.bool !z) ∧ Below w.heap.size w w' := by
  go_enter Tryd.func87, Tryd.ntmps87
  go_wp2
  go_ret
  exact ⟨rfl, by go_grown⟩

/-- The boxes of countUpTo: the mark, what counts, what was counted, and what is to be answered. -/
structure CI (S S1 S2 S3 S4 Qm : Nat) (a b k r : Int) (w W : World) : Prop where
  q : W.heap[Qm]? = some (.cells #[.int .i64 k] 3 (0, 0))
  mrk : W.heap[S1]? = some (.cells #[.int .i64 a, .int .i64 b] 27 (0, 0))
  fn : W.heap[S2]? = some (.cells #[.func (.func 87) #[] #[]] 123 (0, 0))
  r3 : W.heap[S3]? = some (.cells #[.int .i64 r] 3 (0, 0))
  r4 : W.heap[S4]? = some (.cells #[.nilIface] 93 (0, 0))
  bel : Below S w W
theorem CI.below {S S1 S2 S3 S4 Qm : Nat} {a b k r : Int} {w W W' : World} (h : CI S S1 S2 S3 S4 Qm a b k r w W) (hS : S ≤ S1) (hb : Below W.heap.size W W') : CI S S1 S2 S3 S4 Qm a b k r w W' :=
  ⟨blk_below h.q hb, blk_below h.mrk hb, blk_below h.fn hb, blk_below h.r3 hb, blk_below h.r4 hb, h.bel.trans (hb.mono (by have := (Array.getElem?_eq_some_iff.1 h.mrk).1; omega))⟩
theorem CI.own {β : Type} {S S1 S2 S3 S4 Qm B : Nat} {a b : Int} (k r : β → Int) {w : World} (hS : S ≤ w.heap.size) (hB : S ≤ B) : OwnFrom B (fun (s : β) W => CI S S1 S2 S3 S4 Qm a b (k s) (r s) w W) := by
  intro s A B' row hx hg hr
  exact ⟨own_blk B Qm (fun s : β => #[.int .i64 (k s)]) _ s A B' row hx.q hg hr, own_blk B S1 (fun _ : β => #[.int .i64 a, .int .i64 b]) _ s A B' row hx.mrk hg hr, own_blk B S2 (fun _ : β => #[.func (.func 87) #[] #[]]) _ s A B' row hx.fn hg hr,
    own_blk B S3 (fun s : β => #[.int .i64 (r s)]) _ s A B' row hx.r3 hg hr, own_blk B S4 (fun _ : β => #[.nilIface]) _ s A B' row hx.r4 hg hr, ownFrom_below (β := β) hS hB s A B' row hx.bel hg hr⟩
theorem CI.setQ {S S1 S2 S3 S4 Qm : Nat} {a b k r : Int} {w W : World} (h : CI S S1 S2 S3 S4 Qm a b k r w W) (h1 : S ≤ Qm) (h2 : S1 < Qm) (h3 : S2 < Qm) (h4 : S3 < Qm) (h5 : S4 < Qm) (k' : Int) : CI S S1 S2 S3 S4 Qm a b k' r w (W.setCell ⟨Qm, 0, none⟩ (.int .i64 k')) :=
  ⟨Boxed.set _ h.q, blk_set h.mrk (by omega), blk_set h.fn (by omega), blk_set h.r3 (by omega), blk_set h.r4 (by omega), h.bel.setCell (p := ⟨Qm, 0, none⟩) h1 _⟩
theorem CI.setR {S S1 S2 S3 S4 Qm : Nat} {a b k r : Int} {w W : World} (h : CI S S1 S2 S3 S4 Qm a b k r w W) (h1 : S ≤ S3) (h2 : S1 < S3) (h3 : S2 < S3) (h4 : S3 < Qm) (h5 : S3 < S4) (r' : Int) : CI S S1 S2 S3 S4 Qm a b k r' w (W.setCell ⟨S3, 0, none⟩ (.int .i64 r')) :=
  ⟨blk_set h.q (by omega), blk_set h.mrk (by omega), blk_set h.fn (by omega), Boxed.set _ h.r3, blk_set h.r4 (by omega), h.bel.setCell (p := ⟨S3, 0, none⟩) h1 _⟩
theorem CI.setE {S S1 S2 S3 S4 Qm : Nat} {a b k r : Int} {w W : World} (h : CI S S1 S2 S3 S4 Qm a b k r w W) (h1 : S ≤ S4) (h2 : S1 < S4) (h3 : S2 < S4) (h4 : S4 < Qm) (h5 : S3 < S4) : CI S S1 S2 S3 S4 Qm a b k r w (W.setCell ⟨S4, 0, none⟩ .nilIface) :=
  ⟨blk_set h.q (by omega), blk_set h.mrk (by omega), blk_set h.fn (by omega), blk_set h.r3 (by omega), Boxed.set _ h.r4, h.bel.setCell (p := ⟨S4, 0, none⟩) h1 _⟩

set_option maxRecDepth 100000 in
set_option maxHeartbeats 2000000 in
theorem countUp_in (l : List Op7) (hops : opsB l = true) (hn : l.length ≤ 1048576) (w0 : World) (b1 b2 b3 base : Nat) (hT : TreeAt w0 b1 b2 b3 base l) (n : Nat) (h3 : 3 ≤ n) (a b : Int) (x : Addr) (w : World) (hW : Below w0.heap.size w0 w)
    (he : w.cell? ⟨0, 0, none⟩ = some (.iface 203 (.pointer (some x)))) (h0 : 0 < w.heap.size) :
    CallsIn Fence.wide n Tryd.prog 86 #[.agg #[.map (some b1), .map (some b2), .map (some b3)], .agg #[.int .i64 a, .int .i64 b], .func (.func 87) #[] #[]] w fun e w' =>
      ((∃ k, placeM l a b = some k ∧ e = .returned (.tuple #[.int .i64 (k : Nat), .nilIface])) ∨ (placeM l a b = none ∧ e = .returned (.tuple #[.int .i64 0, .iface 203 (.pointer (some x))]))) ∧ Below w.heap.size w w' := by
  have h1 : 1 ≤ n := by omega
  have HW := hideIt hW
  have HTT := hideIt hT
  have HO := hideIt hops
  clear hW hT hops
  refine callsIn_of_wp_marks Tryd.func86 rfl trivial ?_ rfl
  simp only [Tryd.ntmps86, List.size_toArray, List.length_cons, List.length_nil, Nat.reduceAdd, Nat.reduceSub, Array.replicate_succ, Array.replicate_zero, List.push_toArray, List.append_toArray, List.nil_append, List.cons_append]
  gi_wp2
  refine ⟨trivial, ?_⟩
  have A5 : Hid (∃ W5, (((((w.alloc (.cells #[.map (some b1), .map (some b2), .map (some b3)] 107)).alloc (.cells #[.int .i64 a, .int .i64 b] 27)).alloc (.cells #[.func (.func 87) #[] #[]] 123)).alloc (.cells #[.int .i64 0] 3)).alloc (.cells #[.nilIface] 93)) = W5 ∧
      W5.heap[w.heap.size]? = some (.cells #[.map (some b1), .map (some b2), .map (some b3)] 107 (0, 0)) ∧ (W5.heap[w.heap.size + 1]? = some (.cells #[.int .i64 a, .int .i64 b] 27 (0, 0)) ∧ W5.heap[w.heap.size + 2]? = some (.cells #[.func (.func 87) #[] #[]] 123 (0, 0)) ∧ Below w.heap.size w W5) ∧ W5.heap[w.heap.size + 3]? = some (.cells #[.int .i64 0] 3 (0, 0)) ∧ W5.heap[w.heap.size + 4]? = some (.cells #[.nilIface] 93 (0, 0)) ∧ W5.heap.size = w.heap.size + 5) := by
    refine ⟨_, rfl, ?_, ⟨?_, ?_, ?_⟩, ?_, ?_, by simp⟩
    · exact all5 w _ _ _ _ _ 0 (by omega)
    · exact all5 w _ _ _ _ _ 1 (by omega)
    · exact all5 w _ _ _ _ _ 2 (by omega)
    · exact (((((Below.refl _ _).alloc (Nat.le_refl _) _).alloc (by simp) _).alloc (by simp; omega) _).alloc (by simp; omega) _).alloc (by simp; omega) _
    · exact all5 w _ _ _ _ _ 3 (by omega)
    · exact all5 w _ _ _ _ _ 4 (by omega)
  obtain ⟨W5, hW5, ht5, ⟨hm5, hf5, hb5⟩, hr5, hs5, hz5⟩ := A5.out
  rw [hW5]
  refine (callsIn_wide.2 (isNothing_any a b _)).mono ?_
  rintro e w1 ⟨rfl, hb1⟩
  have HM1 := hideIt (blk_below hm5 hb1)
  have HF1 := hideIt (blk_below hf5 hb1)
  have hB1 := Bstep hb5 hb1
  have ht1 := blk_below ht5 hb1
  have hr1 := blk_below hr5 hb1
  have hs1 := blk_below hs5 hb1
  have HS1 := hideIt hs1
  have HR1 := hideIt hr1
  have HT1 := hideIt ht1
  have hsz : w.heap.size + 5 ≤ w1.heap.size := by rw [← hz5]; exact hb1.size
  have ct0 := (blk_cell ht1 0).trans rfl
  have ct1 := (blk_cell ht1 1).trans rfl
  have ct2 := (blk_cell ht1 2).trans rfl
  have cr0 := (blk_cell hr1 0).trans rfl
  have cs0 := (blk_cell hs1 0).trans rfl
  have fr0 : w1.frozen? ⟨w.heap.size + 3, 0, none⟩ = false := by simp [World.frozen?, hr1]
  have fs0 : w1.frozen? ⟨w.heap.size + 4, 0, none⟩ = false := by simp [World.frozen?, hs1]
  have HBW := hideIt hB1
  have herr1 : w1.cell? ⟨0, 0, none⟩ = some (.iface 203 (.pointer (some x))) := errB hB1 h0 he
  have HN0 : Hid (w0.heap.size ≤ w.heap.size) := HW.out.size
  have HWB := hideIt (HW.out.trans (hB1.mono HW.out.size))
  have HERR := hideIt he
  clear hb1 ht5 hm5 hf5 hb5 hr5 hs5 hz5 A5 hW5 ht1 hr1 hs1 hB1 he
  have g0 : w.heap.size < w1.heap.size := by omega
  have g1 : w.heap.size + 1 < w1.heap.size := by omega
  have g2 : w.heap.size + 1 + 1 < w1.heap.size := by omega
  have g3 : w.heap.size + 1 + 1 + 1 < w1.heap.size := by omega
  have g4 : w.heap.size + 1 + 1 + 1 + 1 < w1.heap.size := by omega
  have n34 : w.heap.size + 1 + 1 + 1 ≠ w.heap.size + 1 + 1 + 1 + 1 := by omega
  by_cases hz : a = 0 ∧ b = 0
  · have HP : Hid (placeM l a b = some 0) := by show placeM l a b = _; unfold placeM; rw [if_pos hz]
    rw [decide_eq_true hz]
    clear hz
    gi_wp2
    exact ⟨.tuple #[.int .i64 0, .nilIface], by simp [results, Tryd.results86, go_sem, cr0, cs0, n34], .inl ⟨0, HP.out, rfl⟩, (HBW.out.setCell (p := ⟨w.heap.size + 1 + 1 + 1, 0, none⟩) (by show w.heap.size ≤ w.heap.size + 1 + 1 + 1; omega) _).setCell (p := ⟨w.heap.size + 1 + 1 + 1 + 1, 0, none⟩) (by show w.heap.size ≤ w.heap.size + 1 + 1 + 1 + 1; omega) _⟩
  · have HP : Hid (placeM l a b = upTo a b (lfs l (allO l)) 0) := by show placeM l a b = _; unfold placeM; rw [if_neg hz]
    rw [decide_eq_false hz]
    clear hz
    gi_wp2
    refine ⟨trivial, ?_⟩
    refine (callsIn_wide.2 (leaves_any _ _ _ _ ⟨rfl, rfl, rfl⟩ b1 b2 b3 ⟨rfl, rfl, rfl⟩)).mono ?_
    rintro e w2 ⟨rfl, rfl⟩
    gi_wp2
    obtain ⟨Wb, hWb⟩ : ∃ Wb, ((w1.alloc (.cells #[.int .i64 0] 3)).alloc (.cells #[.map (some b1), .map (some b2), .map (some b3)] 107)) = Wb := ⟨_, rfl⟩
    have hsb : Wb.heap.size = w1.heap.size + 1 + 1 := by rw [← hWb]; simp
    have hBw : Below w1.heap.size w1 Wb := by rw [← hWb]; exact ((Below.refl _ _).alloc (Nat.le_refl _) _).alloc (by simp) _
    have hbox : Wb.heap[w1.heap.size]? = some (.cells #[.int .i64 0] 3 (0, 0)) := by rw [← hWb]; exact (Below.heap_alloc _ _ _ (by simp)).trans (World.alloc_heap_new _ _)
    have hblk : Wb.heap[w1.heap.size + 1]? = some (.cells #[.map (some b1), .map (some b2), .map (some b3)] 107 (0, 0)) := by
      rw [← hWb]
      have h := World.alloc_heap_new (w1.alloc (.cells #[.int .i64 0] 3)) (.cells #[.map (some b1), .map (some b2), .map (some b3)] 107)
      rw [World.size_alloc] at h
      exact h
    rw [hWb]
    have HCI : Hid (CI w.heap.size (w.heap.size + 1) (w.heap.size + 1 + 1) (w.heap.size + 1 + 1 + 1) (w.heap.size + 1 + 1 + 1 + 1) w1.heap.size a b 0 0 w Wb) := ⟨hbox, blk_below HM1.out hBw, blk_below HF1.out hBw, blk_below HR1.out hBw, blk_below HS1.out hBw, Bstep HBW.out hBw⟩
    have HSQ := hideIt (leaves_stops l HO.out hn w0 b1 b2 b3 base HTT.out (n - 1) (w1.heap.size + 1) Wb (HWB.out.trans (hBw.mono HWB.out.size)) hblk)
    have hlen : (allO l).length ≤ 1048576 := Nat.le_trans (all_len HO.out) hn
    have hn0 := HN0.out
    have HE0 : Hid (∀ W, Below w.heap.size w W → W.cell? ⟨0, 0, none⟩ = some (.iface 203 (.pointer (some x)))) := fun W h => errB h h0 HERR.out
    clear HTT HT1 HS1 HR1 HM1 HF1 HBW HWB hbox hblk hWb ct0 ct1 ct2 cr0 cs0 fr0 fs0 herr1 hBw g0 g1 g2 g3 g4 n34 HW
    generalize hBt : w1.heap.size + 1 = Bt at *
    generalize hQm : w1.heap.size = Qm at *
    generalize hS1 : w.heap.size + 1 = S1 at *
    generalize hS2 : S1 + 1 = S2 at *
    generalize hS3 : S2 + 1 = S3 at *
    generalize hS4 : S3 + 1 = S4 at *
    generalize hS : w.heap.size = S at *
    refine wpIn_rangeFunc_ownH rfl h1 (gf := 118) (lb := #[.pointer (some ⟨Bt, 0, none⟩)]) rfl trivial (enters_of Tryd.func118 (by kernel_rfl) rfl) HSQ.out
      (fun h k => h.trans k) (kpT_b (by omega)) (Below.refl _ _) (fun _ => rfl)
      (fun pre W => CI S S1 S2 S3 S4 Qm a b (nShown pre : Nat) 0 w W ∧ freeOf pre a b)
      (fun c pre W => CI S S1 S2 S3 S4 Qm a b (nShown pre : Nat) (nShown pre : Nat) w W ∧ (c = .ret ∧ ∃ p y, pre = p ++ [y] ∧ freeOf p a b ∧ y.a = a ∧ y.b = b))
      (OwnFrom.and (CI.own (fun pre : List Lf => ((nShown pre : Nat) : Int)) (fun _ => 0) (by omega) (by omega)) (ownFrom_pure _ _))
      (fun c => OwnFrom.and (CI.own (fun pre : List Lf => ((nShown pre : Nat) : Int)) (fun pre : List Lf => ((nShown pre : Nat) : Int)) (by omega) (by omega)) (ownFrom_pure _ (fun pre : List Lf => c = .ret ∧ ∃ p y, pre = p ++ [y] ∧ freeOf p a b ∧ y.a = a ∧ y.b = b)))
      ⟨HCI.out, freeOf_nil _ _⟩
      (fun x' a' W => ∃ Bx, Qm + 1 ≤ Bx ∧ W.heap[Bx]? = some (.cells #[.int .i64 x'.a, .int .i64 x'.b, .int .i64 x'.g, .bool x'.z] 44 (0, 0)) ∧ a' =
        { tmps := #[Value.agg #[Value.map (some b1), Value.map (some b2), Value.map (some b3)],
          Value.agg #[Value.int IntKind.i64 a, Value.int IntKind.i64 b], Value.func (Fn.func 87) #[] #[],
          Value.pointer (some { block := S, off := 0 }),
          Value.pointer (some { block := S1, off := 0 }),
          Value.pointer (some { block := S2, off := 0 }),
          Value.pointer (some { block := S3, off := 0 }),
          Value.pointer (some { block := S4, off := 0 }),
          Value.pointer (some { block := Qm, off := 0 }), Value.pointer (some { block := Bx, off := 0 }),
          Value.agg #[Value.int IntKind.i64 a, Value.int IntKind.i64 b], Value.bool false,
          Value.agg #[Value.map (some b1), Value.map (some b2), Value.map (some b3)],
          Value.func (Fn.func 118) #[] #[Value.pointer (some { block := Bt, off := 0 })], lfV x', undef,
          undef, undef, undef, undef, undef, undef, undef, undef, undef, undef], defers := [] })
      ?hAx ?assign ?body ?done ?stop
    case hAx =>
      rintro x' a' _ A B row ⟨Bx, hb, hx, ha⟩ hg hr
      exact ⟨Bx, hb, (hg.block Bx (Array.getElem?_eq_some_iff.1 hx).1 (fun e => by obtain ⟨_, o, ho, hc⟩ := hr Bx e.symm; rw [hx] at ho; cases ho; cases hc)).trans hx, ha⟩
    case assign =>
      rintro lp pre x' W K ⟨hci, hfr⟩ hK
      have hsW : S ≤ W.heap.size := by have := hci.bel.size; omega
      have hQW := (Array.getElem?_eq_some_iff.1 hci.q).1
      unfold lfV
      gi_wp2
      exact hK _ _ ((KeepsOthers.alloc _ _).from _) (KpT.of_below (by omega) ((Below.refl _ _).alloc (Nat.le_refl _) _)) ⟨hci.below (by omega) ((Below.refl _ _).alloc (Nat.le_refl _) _), hfr⟩ ⟨W.heap.size, by omega, World.alloc_heap_new _ _, rfl⟩
    case body =>
      rintro lp pre x' a' W hl ⟨rr, hr⟩ ⟨hci, hfr⟩ ⟨Bx, hbx, hx, rfl⟩ hlt
      have HCW := hideIt hci
      have HX := hideIt hx
      have HFR := hideIt hfr
      have x0 := (blk_cell hx 0).trans rfl
      have x1 := (blk_cell hx 1).trans rfl
      have x2 := (blk_cell hx 2).trans rfl
      have x3 := (blk_cell hx 3).trans rfl
      have f2 := (blk_cell hci.fn 0).trans rfl
      have hgone : Hid (x'.z = true → nShown (pre ++ [x']) = nShown pre) := nShown_gone
      have hthere : Hid (x'.z = false → nShown (pre ++ [x']) = nShown pre + 1) := nShown_there
      have hyes : Hid (x'.a = a → x'.b = b → ∃ p y, pre ++ [x'] = p ++ [y] ∧ freeOf p a b ∧ y.a = a ∧ y.b = b) := fun h1 h2 => ⟨pre, x', rfl, hfr, h1, h2⟩
      have hno : Hid (¬ (x'.a = a ∧ x'.b = b) → freeOf (pre ++ [x']) a b) := fun h => freeOf_more hfr h
      have hsl : nShown pre ≤ 1048576 := Nat.le_trans (nShown_le _) (by omega)
      have hsW : S ≤ W.heap.size := by have := hci.bel.size; omega
      clear hr hx hci hfr
      generalize x'.a = xa at *
      generalize x'.b = xb at *
      generalize x'.g = xg at *
      generalize x'.z = xz at *
      generalize hns : nShown pre = ns at *
      have nbq : ¬ Bx = Qm := by omega
      have n1q : ¬ S1 = Qm := by omega
      have n3q : ¬ S3 = Qm := by omega
      have n4q : ¬ S4 = Qm := by omega
      have n34 : ¬ S4 = S3 := by omega
      have nq3 : ¬ Qm = S3 := by omega
      have hlen' : ns < 1048577 := by omega
      cases xz
      all_goals
        gi_wp2
        refine ⟨trivial, (fun h => by cases h), ?_⟩
        refine ((callsIn_wide.2 (shows_any xa xb xg _ W)).inRound lp).mono ?_
        rintro e W2 ⟨rfl, hb2⟩
        have hci2 := HCW.out.below (by omega) hb2
        have HC2 := hideIt hci2
        have hx2 := blk_below HX.out hb2
        have HK2 : Hid (KeepsOthers W W2) := ⟨hb2.size, fun k o h _ => blk_below h hb2⟩
        have HP2 := hideIt (KpT.of_below (n0 := w0.heap.size) (by omega) hb2)
        have hs2 : w0.heap.size ≤ W2.heap.size := Nat.le_trans (by omega) hb2.size
        have y0 := (blk_cell hx2 0).trans rfl
        have y1 := (blk_cell hx2 1).trans rfl
        have m0 := (blk_cell hci2.mrk 0).trans rfl
        have m1 := (blk_cell hci2.mrk 1).trans rfl
        have q0 := (blk_cell hci2.q 0).trans rfl
        have t0 := (blk_cell hci2.r3 0).trans rfl
        have u0 := (blk_cell hci2.r4 0).trans rfl
        have fq : W2.frozen? ⟨Qm, 0, none⟩ = false := by simp [World.frozen?, hci2.q]
        have f3 : W2.frozen? ⟨S3, 0, none⟩ = false := by simp [World.frozen?, hci2.r3]
        have f4 : W2.frozen? ⟨S4, 0, none⟩ = false := by simp [World.frozen?, hci2.r4]
        clear x0 x1 x2 x3 f2 hci2 hx2 hb2
      · have HT := hideIt (hthere.out (by first | rfl | trivial))
        have HQ := hideIt (HC2.out.setQ (by omega) (by omega) (by omega) (by omega) (by omega) ((ns : Int) + 1))
        have HPQ : Hid (KpT w0.heap.size W (W2.setCell ⟨Qm, 0, none⟩ (.int .i64 ((ns : Int) + 1)))) := HP2.out.trans (kpT_row hs2 (grownBy_setCell' _ _ _) (fun j e => by cases e; exact ⟨by omega, _, _, _, HC2.out.q, by decide⟩))
        have HKQ : Hid (KeepsOthers W (W2.setCell ⟨Qm, 0, none⟩ (.int .i64 ((ns : Int) + 1)))) := HK2.out.trans (KeepsOthers.setCell _ _ _)
        by_cases hab : xa = a ∧ xb = b
        · have HY := hideIt (hyes.out hab.1 hab.2)
          obtain ⟨rfl, rfl⟩ := hab
          clear hyes hno hthere hgone
          gi_wp2
          exact ⟨((HKQ.out.trans (KeepsOthers.setCell _ _ _)).trans (KeepsOthers.setCell _ _ _)).from _, by rw [HT.out]; push_cast; exact (HQ.out.setR (by omega) (by omega) (by omega) (by omega) (by omega) _).setE (by omega) (by omega) (by omega) (by omega) (by omega), rfl, HY.out⟩
        · have HN := hideIt (hno.out hab)
          clear hyes hno hthere hgone
          by_cases hxa : xa = a
          · subst hxa
            have hxb : ¬ xb = b := by omega
            clear hab
            gi_wp2
            exact ⟨HKQ.out.from _, HPQ.out, by rw [HT.out]; push_cast; exact HQ.out, HN.out⟩
          · clear hab
            gi_wp2
            exact ⟨HKQ.out.from _, HPQ.out, by rw [HT.out]; push_cast; exact HQ.out, HN.out⟩
      · have HT := hideIt (hgone.out (by first | rfl | trivial))
        by_cases hab : xa = a ∧ xb = b
        · have HY := hideIt (hyes.out hab.1 hab.2)
          obtain ⟨rfl, rfl⟩ := hab
          clear hyes hno hthere hgone
          gi_wp2
          exact ⟨((HK2.out.trans (KeepsOthers.setCell _ _ _)).trans (KeepsOthers.setCell _ _ _)).from _, by rw [HT.out]; exact (HC2.out.setR (by omega) (by omega) (by omega) (by omega) (by omega) _).setE (by omega) (by omega) (by omega) (by omega) (by omega), rfl, HY.out⟩
        · have HN := hideIt (hno.out hab)
          clear hyes hno hthere hgone
          by_cases hxa : xa = a
          · subst hxa
            have hxb : ¬ xb = b := by omega
            clear hab
            gi_wp2
            exact ⟨HK2.out.from _, HP2.out, by rw [HT.out]; exact HC2.out, HN.out⟩
          · clear hab
            gi_wp2
            exact ⟨HK2.out.from _, HP2.out, by rw [HT.out]; exact HC2.out, HN.out⟩
    case done =>
      rintro D ys W hD rfl ⟨hci, hfr⟩ hK
      have HNO : Hid (placeM l a b = none) := by show placeM l a b = none; rw [HP.out]; exact upTo_free hfr
      have he0 := HE0.out W hci.bel
      have HCI2 := hideIt hci
      have t0 := (blk_cell hci.r3 0).trans rfl
      have u0 := (blk_cell hci.r4 0).trans rfl
      have f3 : W.frozen? ⟨S3, 0, none⟩ = false := by simp [World.frozen?, hci.r3]
      have f4 : W.frozen? ⟨S4, 0, none⟩ = false := by simp [World.frozen?, hci.r4]
      have n34 : ¬ S4 = S3 := by omega
      have n43 : ¬ S3 = S4 := by omega
      have hDS : S4 < D := by omega
      have n0 : ¬ 0 = S3 := by omega
      have n0' : ¬ 0 = S4 := by omega
      have n03 : ¬ S3 = 0 := by omega
      have n04 : ¬ S4 = 0 := by omega
      clear hfr hci
      gi_wp2
      refine wpIn_wide.2 ?_
      go_region_held3 (fun w' => w'.cell? ⟨0, 0, none⟩ = some (.iface 203 (.pointer (some x)))) (first | exact he0 | (simp [go_sem, he0, n0, n0', n03, n04])) (fail)
      gi_wp2
      have HZ := HCI2.out.setR (by omega) (by omega) (by omega) (by omega) (by omega) 0
      obtain ⟨WZ, hWZ⟩ : ∃ WZ, ((W.setCell ⟨S3, 0, none⟩ (.int .i64 0)).setCell ⟨S4, 0, none⟩ (.iface 203 (.pointer (some x)))).drew = WZ := ⟨_, rfl⟩
      rw [hWZ]
      have z3 : WZ.heap[S3]? = some (.cells #[.int .i64 0] 3 (0, 0)) := by rw [← hWZ]; exact blk_set HZ.r3 n43
      have z4 : WZ.heap[S4]? = some (.cells #[.iface 203 (.pointer (some x))] 93 (0, 0)) := by rw [← hWZ]; exact Boxed.set _ HZ.r4
      have zK : WZ.heap[D]? = some (.deferred (some [])) := by rw [← hWZ]; exact blk_set (blk_set hK (by omega)) (by omega)
      have zB : Below S w WZ := by rw [← hWZ]; exact (HZ.bel.setCell (p := ⟨S4, 0, none⟩) (by show S ≤ S4; omega) _).drew
      clear hWZ
      refine ⟨by simp, .inl ⟨_, _, rfl, run_takeDeferred zK, ?_⟩⟩
      have v0 : (WZ.putObj D (.deferred none)).cell? ⟨S3, 0, none⟩ = some (.int .i64 0) := (cell_put _ (by omega)).trans ((blk_cell z3 0).trans rfl)
      have v1 : (WZ.putObj D (.deferred none)).cell? ⟨S4, 0, none⟩ = some (.iface 203 (.pointer (some x))) := (cell_put _ (by omega)).trans ((blk_cell z4 0).trans rfl)
      exact ⟨.tuple #[.int .i64 0, .iface 203 (.pointer (some x))], by simp [results, Tryd.results86, go_sem, v0, v1], .inr ⟨HNO.out, rfl⟩, hS.symm ▸ zB.trans (belowK_b (w := Wb) (by omega) WZ D _ _ (by omega) zK rfl rfl)⟩
    case stop =>
      rintro D c pre W hD ⟨t, ht⟩ ⟨hci, rfl, p, y, rfl, hfr, ha, hb⟩ hK
      have HYES : Hid (placeM l a b = some (nShown (p ++ [y]))) := by show placeM l a b = _; rw [HP.out, ← ht, List.append_assoc, List.singleton_append, upTo_at hfr ha hb, Nat.zero_add]
      have HCI2 := hideIt hci
      have t0 := (blk_cell hci.r3 0).trans rfl
      have u0 := (blk_cell hci.r4 0).trans rfl
      clear hfr hci ht
      gi_wp2
      refine ⟨by simp, .inl ⟨_, _, rfl, run_takeDeferred hK, ?_⟩⟩
      have v0 : (W.putObj D (.deferred none)).cell? ⟨S3, 0, none⟩ = some (.int .i64 (nShown (p ++ [y]) : Nat)) := (cell_put _ (by omega)).trans t0
      have v1 : (W.putObj D (.deferred none)).cell? ⟨S4, 0, none⟩ = some .nilIface := (cell_put _ (by omega)).trans u0
      exact ⟨.tuple #[.int .i64 (nShown (p ++ [y]) : Nat), .nilIface], by simp [results, Tryd.results86, go_sem, v0, v1], .inl ⟨_, HYES.out, rfl⟩, hS.symm ▸ HCI2.out.bel.trans (belowK_b (w := Wb) (by omega) W D _ _ (by omega) hK rfl rfl)⟩
end Go.Proofs.YtedanlmippfojaaDoor

namespace Go.Proofs.YtedanlmippfojaaDoor
open Go.RowKit Go.Shelf
set_option linter.unusedSimpArgs false
set_option linter.unusedVariables false
attribute [local go_sem] Oper.semAt_some

theorem store_fn {P : Program} {w : World} {a : Addr} {m : Mode} (fn : Fn) (first captured : Array Value) : (store a (.func fn first captured) m).run P w = stored P w a (.func fn first captured) m := run_store P w a _ m rfl
attribute [local go_sem] store_fn

set_option maxHeartbeats 1000000 in
theorem counter_any (w : World) :
    Calls Tryd.prog 137 #[] w fun e w' => e = .returned (.func (.func 141) #[] #[.pointer (some ⟨w.heap.size, 0, none⟩)]) ∧ w' = w.alloc (.cells #[.int .i64 0] 3) := by
  go_enter Tryd.func137, Tryd.ntmps137
  go_wp2
  go_ret
  exact ⟨rfl, rfl⟩
set_option maxHeartbeats 1000000 in
theorem count_gone (a b g : Int) (Q : Nat) (k : Int) (w : World) (hq : w.heap[Q]? = some (.cells #[.int .i64 k] 3 (0, 0))) :
    Calls Tryd.prog 141 #[.agg #[.int .i64 a, .int .i64 b, .int .i64 g, .bool true], .pointer (some ⟨Q, 0, none⟩)] w fun e w' => e = .returned (.int .i64 k) ∧ Below w.heap.size w w' := by
  have q0 := (blk_cell hq 0).trans rfl
  have hQ := (Array.getElem?_eq_some_iff.1 hq).1
  go_enter Tryd.func141, Tryd.ntmps141
  go_wp2
  go_ret
  exact ⟨rfl, by go_grown⟩
set_option maxHeartbeats 1000000 in
theorem count_there (a b g : Int) (Q : Nat) (k : Nat) (hk : k ≤ 1048576) (w : World) (hq : w.heap[Q]? = some (.cells #[.int .i64 (k : Int)] 3 (0, 0))) :
    Calls Tryd.prog 141 #[.agg #[.int .i64 a, .int .i64 b, .int .i64 g, .bool false], .pointer (some ⟨Q, 0, none⟩)] w fun e w' => e = .returned (.int .i64 ((k : Int) + 1)) ∧ w' = (w.setCell ⟨Q, 0, none⟩ (.int .i64 ((k : Int) + 1))).alloc (.cells #[.int .i64 a, .int .i64 b, .int .i64 g, .bool false] 44) := by
  have q0 := (blk_cell hq 0).trans rfl
  have fq : w.frozen? ⟨Q, 0, none⟩ = false := by simp [World.frozen?, hq]
  have hQ := (Array.getElem?_eq_some_iff.1 hq).1
  go_enter Tryd.func141, Tryd.ntmps141
  go_wp2
  go_ret
  exact ⟨rfl, rfl⟩

/-- Four blocks that were laid one behind the other. -/
theorem all4 (w : World) (o0 o1 o2 o3 : Obj) (k : Nat) (hk : k < 4) : ((((w.alloc o0).alloc o1).alloc o2).alloc o3).heap[w.heap.size + k]? = [o0, o1, o2, o3][k]? := by
  have e : ((((w.alloc o0).alloc o1).alloc o2).alloc o3).heap = (((w.heap.push o0).push o1).push o2).push o3 := rfl
  rw [e]
  have : k = 0 ∨ k = 1 ∨ k = 2 ∨ k = 3 := by omega
  rcases this with rfl | rfl | rfl | rfl <;> simp [Array.getElem?_push, Array.getElem_push, Nat.add_assoc]

/-- The boxes of signAt: the place, the counter and who counts, and what is to be answered. -/
structure SI (S S1 S2 S3 Qc Qf : Nat) (t k ra rb : Int) (w W : World) : Prop where
  q : W.heap[Qc]? = some (.cells #[.int .i64 k] 3 (0, 0))
  fn : W.heap[Qf]? = some (.cells #[.func (.func 141) #[] #[.pointer (some ⟨Qc, 0, none⟩)]] 198 (0, 0))
  pl : W.heap[S1]? = some (.cells #[.int .i64 t] 3 (0, 0))
  r2 : W.heap[S2]? = some (.cells #[.int .i64 ra, .int .i64 rb] 27 (0, 0))
  r3 : W.heap[S3]? = some (.cells #[.nilIface] 93 (0, 0))
  bel : Below S w W
theorem SI.below {S S1 S2 S3 Qc Qf : Nat} {t k ra rb : Int} {w W W' : World} (h : SI S S1 S2 S3 Qc Qf t k ra rb w W) (hS : S ≤ S1) (hb : Below W.heap.size W W') : SI S S1 S2 S3 Qc Qf t k ra rb w W' :=
  ⟨blk_below h.q hb, blk_below h.fn hb, blk_below h.pl hb, blk_below h.r2 hb, blk_below h.r3 hb, h.bel.trans (hb.mono (by have := (Array.getElem?_eq_some_iff.1 h.pl).1; omega))⟩
theorem SI.kept {S S1 S2 S3 Qc Qf B : Nat} {t k ra rb : Int} {w A B' : World} {row : Option Nat} (hx : SI S S1 S2 S3 Qc Qf t k ra rb w A) (hS : S ≤ w.heap.size) (hB : S ≤ B) (hg : A.grownBy B' row) (hr : ∀ r, row = some r → B ≤ r ∧ ∃ o : Obj, A.heap[r]? = some o ∧ o.isCells = false) : SI S S1 S2 S3 Qc Qf t k ra rb w B' :=
  ⟨own_blk B Qc (fun _ : Unit => #[.int .i64 k]) _ () A B' row hx.q hg hr, own_blk B Qf (fun _ : Unit => #[.func (.func 141) #[] #[.pointer (some ⟨Qc, 0, none⟩)]]) _ () A B' row hx.fn hg hr, own_blk B S1 (fun _ : Unit => #[.int .i64 t]) _ () A B' row hx.pl hg hr,
    own_blk B S2 (fun _ : Unit => #[.int .i64 ra, .int .i64 rb]) _ () A B' row hx.r2 hg hr, own_blk B S3 (fun _ : Unit => #[.nilIface]) _ () A B' row hx.r3 hg hr, ownFrom_below (β := Unit) hS hB () A B' row hx.bel hg hr⟩
theorem SI.setQ {S S1 S2 S3 Qc Qf : Nat} {t k ra rb : Int} {w W : World} (h : SI S S1 S2 S3 Qc Qf t k ra rb w W) (h1 : S ≤ Qc) (h2 : S1 < Qc) (h3 : S2 < Qc) (h4 : S3 < Qc) (h5 : Qc < Qf) (k' : Int) : SI S S1 S2 S3 Qc Qf t k' ra rb w (W.setCell ⟨Qc, 0, none⟩ (.int .i64 k')) :=
  ⟨Boxed.set _ h.q, blk_set h.fn (by omega), blk_set h.pl (by omega), blk_set h.r2 (by omega), blk_set h.r3 (by omega), h.bel.setCell (p := ⟨Qc, 0, none⟩) h1 _⟩
theorem set_two {W : World} {b : Nat} {T : TypeId} {u v u' v' : Value} (h : W.heap[b]? = some (.cells #[u, v] T (0, 0))) : ((W.setCell ⟨b, 0, none⟩ u').setCell ⟨b, 1, none⟩ v').heap[b]? = some (.cells #[u', v'] T (0, 0)) := by
  simp only [World.setCell, Array.getElem?_modify, if_true, h, Option.map_some]
  rfl
theorem blk_set1 {W : World} {b c i : Nat} {o : Obj} {u : Value} (h : W.heap[b]? = some o) (hne : b ≠ c) : (W.setCell ⟨c, i, none⟩ u).heap[b]? = some o :=
  (Below.heap_setCell W ⟨c, i, none⟩ u b hne).trans h
theorem SI.setR {S S1 S2 S3 Qc Qf : Nat} {t k ra rb : Int} {w W : World} (h : SI S S1 S2 S3 Qc Qf t k ra rb w W) (h1 : S ≤ S2) (h2 : S1 < S2) (h3 : S2 < S3) (h4 : S2 < Qc) (h5 : S2 < Qf) (a b : Int) : SI S S1 S2 S3 Qc Qf t k a b w ((W.setCell ⟨S2, 0, none⟩ (.int .i64 a)).setCell ⟨S2, 1, none⟩ (.int .i64 b)) :=
  ⟨blk_set1 (blk_set1 h.q (by omega)) (by omega), blk_set1 (blk_set1 h.fn (by omega)) (by omega), blk_set1 (blk_set1 h.pl (by omega)) (by omega), set_two h.r2, blk_set1 (blk_set1 h.r3 (by omega)) (by omega), (h.bel.setCell (p := ⟨S2, 0, none⟩) h1 _).setCell (p := ⟨S2, 1, none⟩) h1 _⟩
theorem SI.setE {S S1 S2 S3 Qc Qf : Nat} {t k ra rb : Int} {w W : World} (h : SI S S1 S2 S3 Qc Qf t k ra rb w W) (h1 : S ≤ S3) (h2 : S1 < S3) (h3 : S2 < S3) (h4 : S3 < Qc) (h5 : S3 < Qf) : SI S S1 S2 S3 Qc Qf t k ra rb w (W.setCell ⟨S3, 0, none⟩ .nilIface) :=
  ⟨blk_set h.q (by omega), blk_set h.fn (by omega), blk_set h.pl (by omega), blk_set h.r2 (by omega), Boxed.set _ h.r3, h.bel.setCell (p := ⟨S3, 0, none⟩) h1 _⟩

set_option maxRecDepth 100000 in
set_option maxHeartbeats 2000000 in
theorem signAt_in (l : List Op7) (hops : opsB l = true) (hn : l.length ≤ 1048576) (w0 : World) (b1 b2 b3 base : Nat) (hT : TreeAt w0 b1 b2 b3 base l) (n : Nat) (h3 : 3 ≤ n) (t : Int) (x : Addr) (w : World) (hW : Below w0.heap.size w0 w)
    (he : w.cell? ⟨0, 0, none⟩ = some (.iface 203 (.pointer (some x)))) (h0 : 0 < w.heap.size) :
    CallsIn Fence.wide n Tryd.prog 116 #[.agg #[.map (some b1), .map (some b2), .map (some b3)], .int .i64 t] w fun e w' =>
      ((∃ k j y, t = (k : Nat) ∧ (shownI (lvs l))[k]? = some j ∧ (lvs l)[j]? = some y ∧ e = .returned (.tuple #[.agg #[.int .i64 y.a, .int .i64 y.b], .nilIface])) ∨ (inB t 0 ((shownI (lvs l)).length - 1) = false ∧ e = .returned (.tuple #[.agg #[.int .i64 0, .int .i64 0], .iface 203 (.pointer (some x))]))) ∧ Below w.heap.size w w' := by
  have h1 : 1 ≤ n := by omega
  have HW := hideIt hW
  have HTT := hideIt hT
  have HO := hideIt hops
  clear hW hT hops
  refine callsIn_of_wp_marks Tryd.func116 rfl trivial ?_ rfl
  simp only [Tryd.ntmps116, List.size_toArray, List.length_cons, List.length_nil, Nat.reduceAdd, Nat.reduceSub, Array.replicate_succ, Array.replicate_zero, List.push_toArray, List.append_toArray, List.nil_append, List.cons_append]
  have A4 : Hid (∃ W4, ((((w.alloc (.cells #[.map (some b1), .map (some b2), .map (some b3)] 107)).alloc (.cells #[.int .i64 t] 3)).alloc (.cells #[.int .i64 0, .int .i64 0] 27)).alloc (.cells #[.nilIface] 93)) = W4 ∧
      W4.heap[w.heap.size]? = some (.cells #[.map (some b1), .map (some b2), .map (some b3)] 107 (0, 0)) ∧ W4.heap[w.heap.size + 1]? = some (.cells #[.int .i64 t] 3 (0, 0)) ∧ W4.heap[w.heap.size + 1 + 1]? = some (.cells #[.int .i64 0, .int .i64 0] 27 (0, 0)) ∧ W4.heap[w.heap.size + 1 + 1 + 1]? = some (.cells #[.nilIface] 93 (0, 0)) ∧ W4.heap.size = w.heap.size + 1 + 1 + 1 + 1 ∧ Below w.heap.size w W4) :=
    ⟨_, rfl, all4 w _ _ _ _ 0 (by omega), all4 w _ _ _ _ 1 (by omega), all4 w _ _ _ _ 2 (by omega), all4 w _ _ _ _ 3 (by omega), by simp, ((((Below.refl _ _).alloc (Nat.le_refl _) _).alloc (by simp) _).alloc (by simp; omega) _).alloc (by simp; omega) _⟩
  by_cases hneg : t < 0
  · gi_wp2
    obtain ⟨W4, hW4, ht4, ha4, hi4, he4, hz4, hb4⟩ := A4.out
    rw [hW4]
    clear hW4 A4 HTT HW HO
    have herr : W4.cell? ⟨0, 0, none⟩ = some (.iface 203 (.pointer (some x))) := errB hb4 h0 he
    have i0 := (blk_cell hi4 0).trans rfl
    have i1 := (blk_cell hi4 1).trans rfl
    have e0 := (blk_cell he4 0).trans rfl
    have fi : ∀ j, W4.frozen? ⟨w.heap.size + 1 + 1, j, none⟩ = false := fun j => by simp [World.frozen?, hi4]
    have fe : W4.frozen? ⟨w.heap.size + 1 + 1 + 1, 0, none⟩ = false := by simp [World.frozen?, he4]
    have HBW := hideIt hb4
    clear he hi4 he4 ht4 ha4 hb4
    generalize hS1 : w.heap.size + 1 = S1 at *
    generalize hS2 : S1 + 1 = S2 at *
    generalize hS3 : S2 + 1 = S3 at *
    generalize hS : w.heap.size = S at *
    have n02 : ¬ 0 = S2 := by omega
    have n20 : ¬ S2 = 0 := by omega
    have n03 : ¬ 0 = S3 := by omega
    have n30 : ¬ S3 = 0 := by omega
    have n23 : ¬ S2 = S3 := by omega
    have n32 : ¬ S3 = S2 := by omega
    refine wpIn_wide.2 ?_
    go_region_held3 (fun w' => w'.cell? ⟨0, 0, none⟩ = some (.iface 203 (.pointer (some x)))) (first | exact herr | (simp [go_sem, herr, n02, n20, n03, n30])) (fail)
    gi_wp2
    exact ⟨.tuple #[.agg #[.int .i64 0, .int .i64 0], .iface 203 (.pointer (some x))], by simp [results, Tryd.results116, go_sem, i0, i1, e0, n23, n32], .inr ⟨by simp [inB]; omega, rfl⟩, hS.symm ▸ (((HBW.out.setCell (p := ⟨S2, 0, none⟩) (by show S ≤ S2; omega) _).setCell (p := ⟨S2, 1, none⟩) (by show S ≤ S2; omega) _).setCell (p := ⟨S3, 0, none⟩) (by show S ≤ S3; omega) _).drew⟩
  · gi_wp2
    refine ⟨trivial, ?_⟩
    obtain ⟨W4, hW4, ht4, ha4, hi4, he4, hz4, hb4⟩ := A4.out
    rw [hW4]
    refine (callsIn_wide.2 (counter_any _)).mono ?_
    rintro e w1 ⟨rfl, hw1⟩
    have hb1 : Below W4.heap.size W4 w1 := by rw [hw1]; exact (Below.refl _ _).alloc (Nat.le_refl _) _
    have hc1 : w1.heap[W4.heap.size]? = some (.cells #[.int .i64 0] 3 (0, 0)) := by rw [hw1]; exact World.alloc_heap_new _ _
    have hz1 : w1.heap.size = W4.heap.size + 1 := by rw [hw1]; simp
    clear hw1 hW4 A4
    have ht1 := blk_below ht4 hb1
    have ct0 := (blk_cell ht1 0).trans rfl
    have ct1 := (blk_cell ht1 1).trans rfl
    have ct2 := (blk_cell ht1 2).trans rfl
    have g0 : w.heap.size < w1.heap.size := by omega
    have HZ1 := hideIt hz1
    have HZ4 := hideIt hz4
    clear hz1 hz4 ht4
    generalize hQc : W4.heap.size = Qc at *
    gi_wp2
    refine ⟨trivial, ?_⟩
    refine (callsIn_wide.2 (leaves_any _ _ _ _ ⟨rfl, rfl, rfl⟩ b1 b2 b3 ⟨rfl, rfl, rfl⟩)).mono ?_
    rintro e w2 ⟨rfl, rfl⟩
    gi_wp2
    obtain ⟨Wb, hWb⟩ : ∃ Wb, ((w1.alloc (.cells #[.func (.func 141) #[] #[.pointer (some ⟨Qc, 0, none⟩)]] 198)).alloc (.cells #[.map (some b1), .map (some b2), .map (some b3)] 107)) = Wb := ⟨_, rfl⟩
    have hsb : Wb.heap.size = w1.heap.size + 1 + 1 := by rw [← hWb]; simp
    have hBw : Below w1.heap.size w1 Wb := by rw [← hWb]; exact ((Below.refl _ _).alloc (Nat.le_refl _) _).alloc (by simp) _
    have hbox : Wb.heap[w1.heap.size]? = some (.cells #[.func (.func 141) #[] #[.pointer (some ⟨Qc, 0, none⟩)]] 198 (0, 0)) := by rw [← hWb]; exact (Below.heap_alloc _ _ _ (by simp)).trans (World.alloc_heap_new _ _)
    have hblk : Wb.heap[w1.heap.size + 1]? = some (.cells #[.map (some b1), .map (some b2), .map (some b3)] 107 (0, 0)) := by
      rw [← hWb]
      have h := World.alloc_heap_new (w1.alloc (.cells #[.func (.func 141) #[] #[.pointer (some ⟨Qc, 0, none⟩)]] 198)) (.cells #[.map (some b1), .map (some b2), .map (some b3)] 107)
      rw [World.size_alloc] at h
      exact h
    rw [hWb]
    have hb1' : Below W4.heap.size W4 w1 := hQc.symm ▸ hb1
    have HSI : Hid (SI w.heap.size (w.heap.size + 1) (w.heap.size + 1 + 1) (w.heap.size + 1 + 1 + 1) Qc w1.heap.size t 0 0 0 w Wb) := ⟨blk_below hc1 hBw, hbox, blk_below (blk_below ha4 hb1') hBw, blk_below (blk_below hi4 hb1') hBw, blk_below (blk_below he4 hb1') hBw, Bstep (Bstep hb4 hb1') hBw⟩
    have HSQ := hideIt (leaves_stops l HO.out hn w0 b1 b2 b3 base HTT.out (n - 1) (w1.heap.size + 1) Wb (HW.out.trans (HSI.out.bel.mono HW.out.size)) hblk)
    have hlen : (allO l).length ≤ 1048576 := Nat.le_trans (all_len HO.out) hn
    have hn0 : w0.heap.size ≤ w.heap.size := HW.out.size
    have hz1 := HZ1.out
    have hz4 := HZ4.out
    have HE0 : Hid (∀ W, Below w.heap.size w W → W.cell? ⟨0, 0, none⟩ = some (.iface 203 (.pointer (some x)))) := fun W h => errB h h0 he
    clear HTT HW hbox hblk hWb ct0 ct1 ct2 hBw hb1 hb1' hc1 ha4 hi4 he4 hb4 ht1 HZ1 HZ4 he
    generalize hBt : w1.heap.size + 1 = Bt at *
    generalize hQf : w1.heap.size = Qf at *
    generalize hS1 : w.heap.size + 1 = S1 at *
    generalize hS2 : S1 + 1 = S2 at *
    generalize hS3 : S2 + 1 = S3 at *
    generalize hS : w.heap.size = S at *
    obtain ⟨tk, rfl⟩ : ∃ tk : Nat, t = tk := ⟨t.toNat, by omega⟩
    have oc : S3 < Qc := by omega
    have oq : Qc < Qf := by omega
    have ob : Wb.heap.size = Bt + 1 := by omega
    clear hneg hz1 hz4
    refine wpIn_rangeFunc_ownH rfl h1 (gf := 118) (lb := #[.pointer (some ⟨Bt, 0, none⟩)]) rfl trivial (enters_of Tryd.func118 (by kernel_rfl) rfl) HSQ.out
      (fun h k => h.trans k) (kpT_b (by omega)) (Below.refl _ _) (fun _ => rfl)
      (fun pre W => SI S S1 S2 S3 Qc Qf tk (nShown pre : Nat) 0 0 w W ∧ nShown pre ≤ tk)
      (fun c pre W => c = .ret ∧ ∃ p y, pre = p ++ [y] ∧ y.z = false ∧ nShown p = tk ∧ SI S S1 S2 S3 Qc Qf tk (nShown pre : Nat) y.a y.b w W)
      (fun s A B' row hx hg hr => ⟨hx.1.kept (by omega) (by omega) hg hr, hx.2⟩)
      (fun c s A B' row hx hg hr => by obtain ⟨h1, p, y, h2, h3, h4, h5⟩ := hx; exact ⟨h1, p, y, h2, h3, h4, h5.kept (by omega) (by omega) hg hr⟩)
      ⟨HSI.out, Nat.zero_le _⟩
      (fun x' a' W => ∃ Bx, Qf + 1 ≤ Bx ∧ W.heap[Bx]? = some (.cells #[.int .i64 x'.a, .int .i64 x'.b, .int .i64 x'.g, .bool x'.z] 44 (0, 0)) ∧ a' =
        { tmps := #[Value.agg #[Value.map (some b1), Value.map (some b2), Value.map (some b3)], Value.int IntKind.i64 tk,
          Value.pointer (some { block := S, off := 0 }),
          Value.pointer (some { block := S1, off := 0 }),
          Value.pointer (some { block := S2, off := 0 }),
          Value.pointer (some { block := S3, off := 0 }),
          Value.pointer (some { block := Qf, off := 0 }), Value.pointer (some { block := Bx, off := 0 }), Value.int IntKind.i64 tk, Value.bool false,
          undef, undef, Value.func (Fn.func 141) #[] #[Value.pointer (some { block := Qc, off := 0 })],
          Value.agg #[Value.map (some b1), Value.map (some b2), Value.map (some b3)],
          Value.func (Fn.func 118) #[] #[Value.pointer (some { block := Bt, off := 0 })], lfV x', undef,
          undef, undef, undef, undef, undef, undef, undef, undef], defers := [] })
      ?hAx ?assign ?body ?done ?stop
    case hAx =>
      rintro x' a' _ A B row ⟨Bx, hb, hx, ha⟩ hg hr
      exact ⟨Bx, hb, (hg.block Bx (Array.getElem?_eq_some_iff.1 hx).1 (fun e => by obtain ⟨_, o, ho, hc⟩ := hr Bx e.symm; rw [hx] at ho; cases ho; cases hc)).trans hx, ha⟩
    case assign =>
      rintro lp pre x' W K ⟨hci, hfr⟩ hK
      have hsW : S ≤ W.heap.size := by have := hci.bel.size; omega
      have hQW := (Array.getElem?_eq_some_iff.1 hci.fn).1
      unfold lfV
      gi_wp2
      exact hK _ _ ((KeepsOthers.alloc _ _).from _) (KpT.of_below (by omega) ((Below.refl _ _).alloc (Nat.le_refl _) _)) ⟨hci.below (by omega) ((Below.refl _ _).alloc (Nat.le_refl _) _), hfr⟩ ⟨W.heap.size, by omega, World.alloc_heap_new _ _, rfl⟩
    case body =>
      rintro lp pre x' a' W hl ⟨rr, hr⟩ ⟨hci, hfr⟩ ⟨Bx, hbx, hx, rfl⟩ hlt
      have HCW := hideIt hci
      have HX := hideIt hx
      have x0 := (blk_cell hx 0).trans rfl
      have x1 := (blk_cell hx 1).trans rfl
      have x2 := (blk_cell hx 2).trans rfl
      have x3 := (blk_cell hx 3).trans rfl
      have f2 := (blk_cell hci.fn 0).trans rfl
      have p1 := (blk_cell hci.pl 0).trans rfl
      have hgone : Hid (x'.z = true → nShown (pre ++ [x']) = nShown pre) := nShown_gone
      have hthere : Hid (x'.z = false → nShown (pre ++ [x']) = nShown pre + 1) := nShown_there
      have hyes : Hid (x'.z = false → nShown pre = tk → ∀ W9, SI S S1 S2 S3 Qc Qf tk (nShown (pre ++ [x']) : Nat) x'.a x'.b w W9 → ∃ p y, pre ++ [x'] = p ++ [y] ∧ y.z = false ∧ nShown p = tk ∧ SI S S1 S2 S3 Qc Qf tk (nShown (pre ++ [x']) : Nat) y.a y.b w W9) := fun h1 h2 W9 h3 => ⟨pre, x', rfl, h1, h2, h3⟩
      have hsl : nShown pre ≤ 1048576 := Nat.le_trans (nShown_le _) (by omega)
      have hsW : S ≤ W.heap.size := by have := hci.bel.size; omega
      clear hr hx hci
      generalize x'.a = xa at *
      generalize x'.b = xb at *
      generalize x'.g = xg at *
      generalize x'.z = xz at *
      generalize hns : nShown pre = ns at *
      cases xz
      · have HT := hideIt (hthere.out (by first | rfl | trivial))
        have HYS := hideIt (hyes.out (by first | rfl | trivial))
        have HQd : Hid (W.drew.heap[Qc]? = some (.cells #[.int .i64 (ns : Int)] 3 (0, 0))) := HCW.out.q
        have HSd : Hid (SI S S1 S2 S3 Qc Qf tk ((ns : Int) + 1) 0 0 w (W.drew.setCell ⟨Qc, 0, none⟩ (.int .i64 ((ns : Int) + 1)))) := (HCW.out.below (by omega) ((Below.refl _ _).drew)).setQ (by omega) (by omega) (by omega) (by omega) (by omega) _
        have HPd : Hid (KpT w0.heap.size W (W.drew.setCell ⟨Qc, 0, none⟩ (.int .i64 ((ns : Int) + 1)))) := (KpT.of_below (by omega) ((Below.refl _ _).drew)).trans (kpT_row (W := W.drew) (by show w0.heap.size ≤ W.heap.size; omega) (grownBy_setCell' _ _ _) (fun j e => by cases e; exact ⟨by omega, _, _, _, HCW.out.q, by decide⟩))
        have hsz9 : w0.heap.size ≤ (W.drew.setCell ⟨Qc, 0, none⟩ (.int .i64 ((ns : Int) + 1))).heap.size := Nat.le_trans (by omega) HPd.out.1.size
        have n23 : ¬ S3 = S2 := by omega
        have nb2 : ¬ Bx = S2 := by omega
        clear hthere hgone hyes
        gi_wp2
        gi_region_with (first
          | (refine ⟨trivial, (fun h => by cases h), ?_⟩; refine ((callsIn_wide.2 (count_there xa xb xg Qc ns hsl _ HQd.out)).inRound lp).mono ?_; rintro e W2 ⟨rfl, hw2⟩;
              have HS2 : Hid (SI S S1 S2 S3 Qc Qf tk ((ns : Int) + 1) 0 0 w W2) := (by rw [hw2]; exact HSd.out.below (by omega) ((Below.refl _ _).alloc (Nat.le_refl _) _));
              have HX2 : Hid (W2.heap[Bx]? = some (.cells #[.int .i64 xa, .int .i64 xb, .int .i64 xg, .bool false] 44 (0, 0))) := (by rw [hw2]; exact blk_below (blk_set (W := W.drew) HX.out (by omega)) ((Below.refl _ _).alloc (Nat.le_refl _) _));
              have HK2 : Hid (KeepsOthers W W2) := (by rw [hw2]; exact ((KeepsOthers.drew W).trans (KeepsOthers.setCell _ _ _)).trans (KeepsOthers.alloc _ _));
              have HP2 : Hid (KpT w0.heap.size W W2) := (by rw [hw2]; exact HPd.out.trans (KpT.of_below hsz9 ((Below.refl _ _).alloc (Nat.le_refl _) _)));
              have p2 := (blk_cell HS2.out.pl 0).trans rfl; clear hw2)
          | gi_in)
        all_goals
          clear HSd HPd HQd p1 f2 x0 x1 x2 x3 p2
          have y0 := (blk_cell HX2.out 0).trans rfl
          have y1 := (blk_cell HX2.out 1).trans rfl
          have i0 := (blk_cell HS2.out.r2 0).trans rfl
          have i1 := (blk_cell HS2.out.r2 1).trans rfl
          have e0 := (blk_cell HS2.out.r3 0).trans rfl
          have f2 : ∀ j, W2.frozen? ⟨S2, j, none⟩ = false := fun j => by simp [World.frozen?, HS2.out.r2]
          have f3 : W2.frozen? ⟨S3, 0, none⟩ = false := by simp [World.frozen?, HS2.out.r3]
          by_cases htk : ns = tk
          · rw [decide_eq_true (show (tk : Int) < (ns : Int) + 1 by omega)]
            have HF := hideIt (HYS.out htk)
            clear HYS htk
            gi_wp2
            exact ⟨(((HK2.out.trans (KeepsOthers.setCell _ _ _)).trans (KeepsOthers.setCell _ _ _)).trans (KeepsOthers.setCell _ _ _)).from _, rfl, HF.out _ (by rw [HT.out]; push_cast; exact (HS2.out.setR (by omega) (by omega) (by omega) (by omega) (by omega) _ _).setE (by omega) (by omega) (by omega) (by omega) (by omega))⟩
          · rw [decide_eq_false (show ¬ (tk : Int) < (ns : Int) + 1 by omega)]
            clear HYS
            gi_wp2
            exact ⟨HK2.out.from _, HP2.out, by rw [HT.out]; push_cast; exact HS2.out, by rw [HT.out]; omega⟩
      · have HT := hideIt (hgone.out (by first | rfl | trivial))
        have HQd : Hid (W.drew.heap[Qc]? = some (.cells #[.int .i64 (ns : Int)] 3 (0, 0))) := HCW.out.q
        clear hthere hgone hyes
        gi_wp2
        gi_region_with (first
          | (refine ⟨trivial, (fun h => by cases h), ?_⟩; refine ((callsIn_wide.2 (count_gone xa xb xg Qc (ns : Int) _ HQd.out)).inRound lp).mono ?_; rintro e W2 ⟨rfl, hb2⟩;
              have HB2 : Hid (Below W.heap.size W W2) := ((Below.refl _ _).drew).trans hb2;
              have p2 := (blk_cell (blk_below HCW.out.pl HB2.out) 0).trans rfl; clear hb2)
          | gi_in)
        all_goals
          clear HQd p1 f2 x0 x1 x2 x3 p2
          rw [decide_eq_false (show ¬ tk < ns by omega)]
          gi_wp2
          exact ⟨(show KeepsOthers W W2 from ⟨HB2.out.size, fun k o h _ => blk_below h HB2.out⟩).from _, KpT.of_below (by omega) HB2.out, by rw [HT.out]; exact HCW.out.below (by omega) HB2.out, by rw [HT.out]; exact hfr⟩
    case done =>
      rintro D ys W hD rfl ⟨hci, hfr⟩ hK
      have HNO : Hid (inB (tk : Int) 0 ((shownI (lvs l)).length - 1) = false) := by
        show inB (tk : Int) 0 ((shownI (lvs l)).length - 1) = false
        rw [shownI_len]
        have : nShown (lvs l) ≤ tk := hfr
        simp [inB]
        omega
      have he0 := HE0.out W hci.bel
      have HCI2 := hideIt hci
      have i0 := (blk_cell hci.r2 0).trans rfl
      have i1 := (blk_cell hci.r2 1).trans rfl
      have e0 := (blk_cell hci.r3 0).trans rfl
      have f2 : ∀ j, W.frozen? ⟨S2, j, none⟩ = false := fun j => by simp [World.frozen?, hci.r2]
      have f3 : W.frozen? ⟨S3, 0, none⟩ = false := by simp [World.frozen?, hci.r3]
      have n02 : ¬ 0 = S2 := by omega
      have n20 : ¬ S2 = 0 := by omega
      have n03 : ¬ 0 = S3 := by omega
      have n30 : ¬ S3 = 0 := by omega
      have n23 : ¬ S2 = S3 := by omega
      have n32 : ¬ S3 = S2 := by omega
      clear hfr hci
      gi_wp2
      refine wpIn_wide.2 ?_
      go_region_held3 (fun w' => w'.cell? ⟨0, 0, none⟩ = some (.iface 203 (.pointer (some x)))) (first | exact he0 | (simp [go_sem, he0, n02, n20, n03, n30])) (fail)
      gi_wp2
      have HZ := HCI2.out.setR (by omega) (by omega) (by omega) (by omega) (by omega) 0 0
      obtain ⟨WZ, hWZ⟩ : ∃ WZ, (((W.setCell ⟨S2, 0, none⟩ (.int .i64 0)).setCell ⟨S2, 1, none⟩ (.int .i64 0)).setCell ⟨S3, 0, none⟩ (.iface 203 (.pointer (some x)))).drew = WZ := ⟨_, rfl⟩
      rw [hWZ]
      have z2 : WZ.heap[S2]? = some (.cells #[.int .i64 0, .int .i64 0] 27 (0, 0)) := by rw [← hWZ]; exact blk_set HZ.r2 n23
      have z3 : WZ.heap[S3]? = some (.cells #[.iface 203 (.pointer (some x))] 93 (0, 0)) := by rw [← hWZ]; exact Boxed.set _ HZ.r3
      have zK : WZ.heap[D]? = some (.deferred (some [])) := by rw [← hWZ]; exact blk_set (blk_set1 (blk_set1 hK (by omega)) (by omega)) (by omega)
      have zB : Below S w WZ := by rw [← hWZ]; exact (HZ.bel.setCell (p := ⟨S3, 0, none⟩) (by show S ≤ S3; omega) _).drew
      clear hWZ
      refine ⟨by simp, .inl ⟨_, _, rfl, run_takeDeferred zK, ?_⟩⟩
      have v0 : (WZ.putObj D (.deferred none)).cell? ⟨S2, 0, none⟩ = some (.int .i64 0) := (cell_put _ (by omega)).trans ((blk_cell z2 0).trans rfl)
      have v1 : (WZ.putObj D (.deferred none)).cell? ⟨S2, 1, none⟩ = some (.int .i64 0) := (cell_put _ (by omega)).trans ((blk_cell z2 1).trans rfl)
      have v2 : (WZ.putObj D (.deferred none)).cell? ⟨S3, 0, none⟩ = some (.iface 203 (.pointer (some x))) := (cell_put _ (by omega)).trans ((blk_cell z3 0).trans rfl)
      exact ⟨.tuple #[.agg #[.int .i64 0, .int .i64 0], .iface 203 (.pointer (some x))], by simp [results, Tryd.results116, go_sem, v0, v1, v2], .inr ⟨HNO.out, rfl⟩, hS.symm ▸ zB.trans (belowK_b (w := Wb) (by omega) WZ D _ _ (by omega) zK rfl rfl)⟩
    case stop =>
      rintro D c pre W hD ⟨t', ht⟩ ⟨rfl, p, y, rfl, hz, hk, hci⟩ hK
      have HYES : Hid ((shownI (lvs l))[tk]? = some p.length ∧ (lvs l)[p.length]? = some y) := by
        have ht' : p ++ y :: t' = lvs l := by rw [← show (p ++ [y]) ++ t' = lvs l from ht]; simp
        exact ⟨hk ▸ shownI_at ht' hz, at_mid ht'⟩
      have HCI2 := hideIt hci
      have i0 := (blk_cell hci.r2 0).trans rfl
      have i1 := (blk_cell hci.r2 1).trans rfl
      have e0 := (blk_cell hci.r3 0).trans rfl
      clear hci ht
      gi_wp2
      refine ⟨by simp, .inl ⟨_, _, rfl, run_takeDeferred hK, ?_⟩⟩
      have v0 : (W.putObj D (.deferred none)).cell? ⟨S2, 0, none⟩ = some (.int .i64 y.a) := (cell_put _ (by omega)).trans i0
      have v1 : (W.putObj D (.deferred none)).cell? ⟨S2, 1, none⟩ = some (.int .i64 y.b) := (cell_put _ (by omega)).trans i1
      have v2 : (W.putObj D (.deferred none)).cell? ⟨S3, 0, none⟩ = some .nilIface := (cell_put _ (by omega)).trans e0
      exact ⟨.tuple #[.agg #[.int .i64 y.a, .int .i64 y.b], .nilIface], by simp [results, Tryd.results116, go_sem, v0, v1, v2], .inl ⟨tk, _, y, rfl, HYES.out.1, HYES.out.2, rfl⟩, hS.symm ▸ HCI2.out.bel.trans (belowK_b (w := Wb) (by omega) W D _ _ (by omega) hK rfl rfl)⟩
end Go.Proofs.YtedanlmippfojaaDoor

namespace Go.Proofs.YtedanlmippfojaaDoor
open Go.RowKit Go.Shelf
set_option linter.unusedSimpArgs false
set_option linter.unusedVariables false
attribute [local go_sem] Oper.semAt_some

theorem grownBy_set (W : World) (b i : Nat) (v : Value) : W.grownBy (W.setCell ⟨b, i, none⟩ v) (some b) :=
  ⟨rfl, rfl, rfl, (KeepsWalks.setCell W _ v).size, fun k _ hk => Below.heap_setCell _ _ _ k (fun e => hk (by rw [e]))⟩
theorem size_set (W : World) (b i : Nat) (v : Value) : (W.setCell ⟨b, i, none⟩ v).heap.size = W.heap.size := by simp [World.setCell]
theorem set_one {W : World} {b : Nat} {T : TypeId} {u v u' : Value} (h : W.heap[b]? = some (.cells #[u, v] T (0, 0))) : (W.setCell ⟨b, 0, none⟩ u').heap[b]? = some (.cells #[u', v] T (0, 0)) := by
  simp only [World.setCell, Array.getElem?_modify, if_true, h, Option.map_some]
  rfl
/-- The boxes of leafBehind: the sign, what is to be answered, and the last one that was gone by. -/
structure LB (S S1 S2 Ql : Nat) (a b ra rb la lb : Int) (w W : World) : Prop where
  sg : W.heap[S1]? = some (.cells #[.int .i64 a, .int .i64 b] 27 (0, 0))
  r2 : W.heap[S2]? = some (.cells #[.int .i64 ra, .int .i64 rb] 27 (0, 0))
  lst : W.heap[Ql]? = some (.cells #[.int .i64 la, .int .i64 lb] 27 (0, 0))
  bel : Below S w W
theorem LB.below {S S1 S2 Ql : Nat} {a b ra rb la lb : Int} {w W W' : World} (h : LB S S1 S2 Ql a b ra rb la lb w W) (hS : S ≤ S1) (hb : Below W.heap.size W W') : LB S S1 S2 Ql a b ra rb la lb w W' :=
  ⟨blk_below h.sg hb, blk_below h.r2 hb, blk_below h.lst hb, h.bel.trans (hb.mono (by have := (Array.getElem?_eq_some_iff.1 h.sg).1; omega))⟩
theorem LB.kept {S S1 S2 Ql B : Nat} {a b ra rb la lb : Int} {w A B' : World} {row : Option Nat} (hx : LB S S1 S2 Ql a b ra rb la lb w A) (hS : S ≤ w.heap.size) (hB : S ≤ B) (hg : A.grownBy B' row) (hr : ∀ r, row = some r → B ≤ r ∧ ∃ o : Obj, A.heap[r]? = some o ∧ o.isCells = false) : LB S S1 S2 Ql a b ra rb la lb w B' :=
  ⟨own_blk B S1 (fun _ : Unit => #[.int .i64 a, .int .i64 b]) _ () A B' row hx.sg hg hr, own_blk B S2 (fun _ : Unit => #[.int .i64 ra, .int .i64 rb]) _ () A B' row hx.r2 hg hr, own_blk B Ql (fun _ : Unit => #[.int .i64 la, .int .i64 lb]) _ () A B' row hx.lst hg hr, ownFrom_below (β := Unit) hS hB () A B' row hx.bel hg hr⟩
theorem LB.setL {S S1 S2 Ql : Nat} {a b ra rb la lb : Int} {w W : World} (h : LB S S1 S2 Ql a b ra rb la lb w W) (h1 : S ≤ Ql) (h2 : S1 < Ql) (h3 : S2 < Ql) (c d : Int) : LB S S1 S2 Ql a b ra rb c d w ((W.setCell ⟨Ql, 0, none⟩ (.int .i64 c)).setCell ⟨Ql, 1, none⟩ (.int .i64 d)) :=
  ⟨blk_set1 (blk_set1 h.sg (by omega)) (by omega), blk_set1 (blk_set1 h.r2 (by omega)) (by omega), set_two h.lst, (h.bel.setCell (p := ⟨Ql, 0, none⟩) h1 _).setCell (p := ⟨Ql, 1, none⟩) h1 _⟩
theorem LB.setR {S S1 S2 Ql : Nat} {a b ra rb la lb : Int} {w W : World} (h : LB S S1 S2 Ql a b ra rb la lb w W) (h1 : S ≤ S2) (h2 : S1 < S2) (h3 : S2 < Ql) (c d : Int) : LB S S1 S2 Ql a b c d la lb w ((W.setCell ⟨S2, 0, none⟩ (.int .i64 c)).setCell ⟨S2, 1, none⟩ (.int .i64 d)) :=
  ⟨blk_set1 (blk_set1 h.sg (by omega)) (by omega), set_two h.r2, blk_set1 (blk_set1 h.lst (by omega)) (by omega), (h.bel.setCell (p := ⟨S2, 0, none⟩) h1 _).setCell (p := ⟨S2, 1, none⟩) h1 _⟩

set_option maxRecDepth 100000 in
set_option maxHeartbeats 2000000 in
theorem leafBehind_in (l : List Op7) (hops : opsB l = true) (hn : l.length ≤ 1048576) (w0 : World) (b1 b2 b3 base : Nat) (hT : TreeAt w0 b1 b2 b3 base l) (n : Nat) (h3 : 3 ≤ n) (a b : Int) (w : World) (hW : Below w0.heap.size w0 w) (h0 : 0 < w.heap.size) :
    CallsIn Fence.wide n Tryd.prog 134 #[.agg #[.map (some b1), .map (some b2), .map (some b3)], .agg #[.int .i64 a, .int .i64 b]] w fun e w' =>
      ((∃ p y q, p ++ y :: q = lvs l ∧ lastId p = (a, b) ∧ e = .returned (.agg #[.int .i64 y.a, .int .i64 y.b])) ∨ (noneBehind (lvs l) a b ∧ e = .returned (.agg #[.int .i64 0, .int .i64 0]))) ∧ Below w.heap.size w w' := by
  have h1 : 1 ≤ n := by omega
  have HW := hideIt hW
  have HTT := hideIt hT
  have HO := hideIt hops
  clear hW hT hops
  refine callsIn_of_wp_marks Tryd.func134 rfl trivial ?_ rfl
  simp only [Tryd.ntmps134, List.size_toArray, List.length_cons, List.length_nil, Nat.reduceAdd, Nat.reduceSub, Array.replicate_succ, Array.replicate_zero, List.push_toArray, List.append_toArray, List.nil_append, List.cons_append]
  have A4 : Hid (∃ W4, ((((w.alloc (.cells #[.map (some b1), .map (some b2), .map (some b3)] 107)).alloc (.cells #[.int .i64 a, .int .i64 b] 27)).alloc (.cells #[.int .i64 0, .int .i64 0] 27)).alloc (.cells #[.int .i64 0, .int .i64 0] 27)) = W4 ∧
      LB w.heap.size (w.heap.size + 1) (w.heap.size + 1 + 1) (w.heap.size + 1 + 1 + 1) a b 0 0 0 0 w W4 ∧ w.heap.size + 1 + 1 + 1 < W4.heap.size) :=
    ⟨_, rfl, ⟨all4 w _ _ _ _ 1 (by omega), all4 w _ _ _ _ 2 (by omega), all4 w _ _ _ _ 3 (by omega), ((((Below.refl _ _).alloc (Nat.le_refl _) _).alloc (by simp) _).alloc (by simp; omega) _).alloc (by simp; omega) _⟩, by simp⟩
  gi_wp2
  refine ⟨trivial, ?_⟩
  obtain ⟨W4, hW4, hlb4, hz4⟩ := A4.out
  rw [hW4]
  clear hW4 A4
  refine (callsIn_wide.2 (leaves_any _ _ _ _ ⟨rfl, rfl, rfl⟩ b1 b2 b3 ⟨rfl, rfl, rfl⟩)).mono ?_
  rintro e Wb ⟨rfl, hWb⟩
  have hsb : Wb.heap.size = W4.heap.size + 1 := by rw [hWb]; simp
  have hBw : Below W4.heap.size W4 Wb := by rw [hWb]; exact (Below.refl _ _).alloc (Nat.le_refl _) _
  have hblk : Wb.heap[W4.heap.size]? = some (.cells #[.map (some b1), .map (some b2), .map (some b3)] 107 (0, 0)) := by rw [hWb]; exact World.alloc_heap_new _ _
  have HLB := hideIt (hlb4.below (by omega) hBw)
  have HSQ := hideIt (leaves_stops l HO.out hn w0 b1 b2 b3 base HTT.out (n - 1) W4.heap.size Wb (HW.out.trans (HLB.out.bel.mono HW.out.size)) hblk)
  have hlen : (allO l).length ≤ 1048576 := Nat.le_trans (all_len HO.out) hn
  have hn0 : w0.heap.size ≤ w.heap.size := HW.out.size
  clear HTT HW hblk hWb hBw hlb4
  generalize hBt : W4.heap.size = Bt at *
  generalize hS1 : w.heap.size + 1 = S1 at *
  generalize hS2 : S1 + 1 = S2 at *
  generalize hQl : S2 + 1 = Ql at *
  generalize hS : w.heap.size = S at *
  gi_wp2
  refine wpIn_rangeFunc_ownH rfl h1 (gf := 118) (lb := #[.pointer (some ⟨Bt, 0, none⟩)]) rfl trivial (enters_of Tryd.func118 (by kernel_rfl) rfl) HSQ.out
    (fun h k => h.trans k) (kpT_b (by omega)) (Below.refl _ _) (fun _ => rfl)
    (fun pre W => LB S S1 S2 Ql a b 0 0 (lastId pre).1 (lastId pre).2 w W ∧ noneBehind pre a b)
    (fun c pre W => c = .ret ∧ ∃ p y, pre = p ++ [y] ∧ lastId p = (a, b) ∧ LB S S1 S2 Ql a b y.a y.b (lastId p).1 (lastId p).2 w W)
    (fun s A B' row hx hg hr => ⟨hx.1.kept (by omega) (by omega) hg hr, hx.2⟩)
    (fun c s A B' row hx hg hr => by obtain ⟨h1, p, y, h2, h3, h5⟩ := hx; exact ⟨h1, p, y, h2, h3, h5.kept (by omega) (by omega) hg hr⟩)
    ⟨HLB.out, noneBehind_nil _ _⟩
    (fun x' a' W => ∃ Bx, Ql + 1 ≤ Bx ∧ W.heap[Bx]? = some (.cells #[.int .i64 x'.a, .int .i64 x'.b, .int .i64 x'.g, .bool x'.z] 44 (0, 0)) ∧ a' =
      { tmps := #[Value.agg #[Value.map (some b1), Value.map (some b2), Value.map (some b3)],
        Value.agg #[Value.int IntKind.i64 a, Value.int IntKind.i64 b],
        Value.pointer (some { block := S, off := 0 }),
        Value.pointer (some { block := S1, off := 0 }),
        Value.pointer (some { block := S2, off := 0 }),
        Value.pointer (some { block := Ql, off := 0 }), Value.pointer (some { block := Bx, off := 0 }),
        Value.agg #[Value.int IntKind.i64 0, Value.int IntKind.i64 0],
        Value.agg #[Value.map (some b1), Value.map (some b2), Value.map (some b3)],
        Value.func (Fn.func 118) #[] #[Value.pointer (some { block := Bt, off := 0 })], lfV x', undef, undef,
        undef, undef, undef, undef, undef, undef], defers := [] })
    ?hAx ?assign ?body ?done ?stop
  case hAx =>
    rintro x' a' _ A B row ⟨Bx, hb, hx, ha⟩ hg hr
    exact ⟨Bx, hb, (hg.block Bx (Array.getElem?_eq_some_iff.1 hx).1 (fun e => by obtain ⟨_, o, ho, hc⟩ := hr Bx e.symm; rw [hx] at ho; cases ho; cases hc)).trans hx, ha⟩
  case assign =>
    rintro lp pre x' W K ⟨hci, hfr⟩ hK
    have hsW : S ≤ W.heap.size := by have := hci.bel.size; omega
    have hBW : Ql + 1 ≤ W.heap.size := (Array.getElem?_eq_some_iff.1 hci.lst).1
    unfold lfV
    gi_wp2
    exact hK _ _ ((KeepsOthers.alloc _ _).from _) (KpT.of_below (by omega) ((Below.refl _ _).alloc (Nat.le_refl _) _)) ⟨hci.below (by omega) ((Below.refl _ _).alloc (Nat.le_refl _) _), hfr⟩ ⟨W.heap.size, hBW, World.alloc_heap_new _ _, rfl⟩
  case body =>
    rintro lp pre x' a' W hl ⟨rr, hr⟩ ⟨hci, hfr⟩ ⟨Bx, hbx, hx, rfl⟩ hlt
    have HCW := hideIt hci
    have x0 := (blk_cell hx 0).trans rfl
    have x1 := (blk_cell hx 1).trans rfl
    have s0 := (blk_cell hci.sg 0).trans rfl
    have s1 := (blk_cell hci.sg 1).trans rfl
    have l0 := (blk_cell hci.lst 0).trans rfl
    have l1 := (blk_cell hci.lst 1).trans rfl
    have r0 := (blk_cell hci.r2 0).trans rfl
    have r1 := (blk_cell hci.r2 1).trans rfl
    have fl : ∀ j, W.frozen? ⟨Ql, j, none⟩ = false := fun j => by simp [World.frozen?, hci.lst]
    have fr : ∀ j, W.frozen? ⟨S2, j, none⟩ = false := fun j => by simp [World.frozen?, hci.r2]
    have hsW : S ≤ W.heap.size := by have := hci.bel.size; omega
    have hlm := lastId_more pre x'
    have HLM : Hid (lastId (pre ++ [x']) = (x'.a, x'.b)) := hlm
    have HN : Hid (¬ lastId pre = (a, b) → noneBehind (pre ++ [x']) a b) := fun h => noneBehind_more hfr h
    have HY : Hid (lastId pre = (a, b) → ∀ W9, LB S S1 S2 Ql a b x'.a x'.b (lastId pre).1 (lastId pre).2 w W9 → ∃ p y, pre ++ [x'] = p ++ [y] ∧ lastId p = (a, b) ∧ LB S S1 S2 Ql a b y.a y.b (lastId p).1 (lastId p).2 w W9) := fun h W9 h9 => ⟨pre, x', rfl, h, h9⟩
    have HKL : Hid (KpT w0.heap.size W ((W.setCell ⟨Ql, 0, none⟩ (.int .i64 x'.a)).setCell ⟨Ql, 1, none⟩ (.int .i64 x'.b))) := (kpT_row (by omega) (grownBy_set _ _ _ _) (fun j e => by cases e; exact ⟨by omega, _, _, _, hci.lst, by decide⟩)).trans (kpT_row (W := W.setCell ⟨Ql, 0, none⟩ (.int .i64 x'.a)) (by rw [size_set]; omega) (grownBy_set _ _ _ _) (fun j e => by cases e; exact ⟨by omega, _, _, _, set_one hci.lst, by decide⟩))
    clear hr hx hci hfr hlm
    generalize lastId pre = LP at *
    obtain ⟨u, v⟩ := LP
    dsimp only at l0 l1
    generalize x'.a = xa at *
    generalize x'.b = xb at *
    by_cases hab : u = a ∧ v = b
    · obtain ⟨rfl, rfl⟩ := hab
      have HF := hideIt (HY.out rfl)
      clear HN HY
      gi_wp2
      exact ⟨((KeepsOthers.setCell _ _ _).trans (KeepsOthers.setCell _ _ _)).from _, rfl, HF.out _ (HCW.out.setR (by omega) (by omega) (by omega) _ _)⟩
    · have HF := hideIt (HN.out (fun h => hab ⟨congrArg Prod.fst h, congrArg Prod.snd h⟩))
      clear HN HY
      by_cases hua : u = a
      · subst hua
        have hvb : ¬ v = b := by omega
        clear hab
        gi_wp2
        exact ⟨((KeepsOthers.setCell _ _ _).trans (KeepsOthers.setCell _ _ _)).from _, HKL.out, by rw [HLM.out]; exact HCW.out.setL (by omega) (by omega) (by omega) _ _, HF.out⟩
      · clear hab
        gi_wp2
        exact ⟨((KeepsOthers.setCell _ _ _).trans (KeepsOthers.setCell _ _ _)).from _, HKL.out, by rw [HLM.out]; exact HCW.out.setL (by omega) (by omega) (by omega) _ _, HF.out⟩
  case done =>
    rintro D ys W hD rfl ⟨hci, hfr⟩ hK
    have HNO : Hid (noneBehind (lvs l) a b) := hfr
    have HCI2 := hideIt hci
    have r0 := (blk_cell hci.r2 0).trans rfl
    have r1 := (blk_cell hci.r2 1).trans rfl
    have fr : ∀ j, W.frozen? ⟨S2, j, none⟩ = false := fun j => by simp [World.frozen?, hci.r2]
    clear hfr hci
    gi_wp2
    have HZ := HCI2.out.setR (by omega) (by omega) (by omega) 0 0
    obtain ⟨WZ, hWZ⟩ : ∃ WZ, ((W.setCell ⟨S2, 0, none⟩ (.int .i64 0)).setCell ⟨S2, 1, none⟩ (.int .i64 0)) = WZ := ⟨_, rfl⟩
    have zK : WZ.heap[D]? = some (.deferred (some [])) := by rw [← hWZ]; exact blk_set1 (blk_set1 hK (by omega)) (by omega)
    rw [hWZ] at HZ ⊢
    clear hWZ
    refine ⟨by simp, .inl ⟨_, _, rfl, run_takeDeferred zK, ?_⟩⟩
    have v0 : (WZ.putObj D (.deferred none)).cell? ⟨S2, 0, none⟩ = some (.int .i64 0) := (cell_put _ (by omega)).trans ((blk_cell HZ.r2 0).trans rfl)
    have v1 : (WZ.putObj D (.deferred none)).cell? ⟨S2, 1, none⟩ = some (.int .i64 0) := (cell_put _ (by omega)).trans ((blk_cell HZ.r2 1).trans rfl)
    exact ⟨.agg #[.int .i64 0, .int .i64 0], by simp [results, Tryd.results134, go_sem, v0, v1], .inr ⟨HNO.out, rfl⟩, hS.symm ▸ HZ.bel.trans (belowK_b (w := Wb) (by omega) WZ D _ _ (by omega) zK rfl rfl)⟩
  case stop =>
    rintro D c pre W hD ⟨t', ht⟩ ⟨rfl, p, y, rfl, hlp, hci⟩ hK
    have HYES : Hid (p ++ y :: t' = lvs l) := by show p ++ y :: t' = lvs l; rw [← show (p ++ [y]) ++ t' = lvs l from ht]; simp
    have HLP := hideIt hlp
    have HCI2 := hideIt hci
    have r0 := (blk_cell hci.r2 0).trans rfl
    have r1 := (blk_cell hci.r2 1).trans rfl
    clear hci ht hlp
    gi_wp2
    refine ⟨by simp, .inl ⟨_, _, rfl, run_takeDeferred hK, ?_⟩⟩
    have v0 : (W.putObj D (.deferred none)).cell? ⟨S2, 0, none⟩ = some (.int .i64 y.a) := (cell_put _ (by omega)).trans r0
    have v1 : (W.putObj D (.deferred none)).cell? ⟨S2, 1, none⟩ = some (.int .i64 y.b) := (cell_put _ (by omega)).trans r1
    exact ⟨.agg #[.int .i64 y.a, .int .i64 y.b], by simp [results, Tryd.results134, go_sem, v0, v1], .inl ⟨p, y, t', HYES.out, HLP.out, rfl⟩, hS.symm ▸ HCI2.out.bel.trans (belowK_b (w := Wb) (by omega) W D _ _ (by omega) hK rfl rfl)⟩
end Go.Proofs.YtedanlmippfojaaDoor

namespace Go.Proofs.YtedanlmippfojaaDoor
open Go.RowKit
set_option linter.unusedSimpArgs false
set_option linter.unusedVariables false
attribute [local go_sem ↓] Go.wp_at_zero Go.wp_at_succ

/-- The boxes of what is told: a tree, and an id. -/
structure TN (w W : World) : Prop where
  tb : W.heap[w.heap.size]? = some (.cells #[.map none, .map none, .map none] 107 (0, 0))
  ib : W.heap[w.heap.size + 1]? = some (.cells #[.int .i64 0, .int .i64 0] 27 (0, 0))
  bel : Below w.heap.size w W
theorem TN.below {w W W' : World} (h : TN w W) (hb : Below W.heap.size W W') : TN w W' := ⟨blk_below h.tb hb, blk_below h.ib hb, Bstep h.bel hb⟩
theorem TN.lt {w W : World} (h : TN w W) : w.heap.size + 1 < W.heap.size := (Array.getElem?_eq_some_iff.1 h.ib).1
theorem set_three {W : World} {b : Nat} {T : TypeId} {u v x u' v' x' : Value} (h : W.heap[b]? = some (.cells #[u, v, x] T (0, 0))) : (((W.setCell ⟨b, 0, none⟩ u').setCell ⟨b, 1, none⟩ v').setCell ⟨b, 2, none⟩ x').heap[b]? = some (.cells #[u', v', x'] T (0, 0)) := by
  simp only [World.setCell, Array.getElem?_modify, if_true, h, Option.map_some]
  rfl
/-- What is to be told, in its boxes. -/
def T5 (b1 b2 b3 : Nat) (r cn : Int) (Bt Bi : Nat) (W : World) : Prop := W.cell? ⟨Bt, 0, none⟩ = some (.map (some b1)) ∧ W.cell? ⟨Bt, 1, none⟩ = some (.map (some b2)) ∧ W.cell? ⟨Bt, 2, none⟩ = some (.map (some b3)) ∧ W.cell? ⟨Bi, 0, none⟩ = some (.int .i64 r) ∧ W.cell? ⟨Bi, 1, none⟩ = some (.int .i64 cn)
theorem cell_set1 {W : World} {b c i j : Nat} {u : Value} (h : ¬ b = c) : (W.setCell ⟨c, i, none⟩ u).cell? ⟨b, j, none⟩ = W.cell? ⟨b, j, none⟩ := by simp only [World.cell?, Below.heap_setCell W ⟨c, i, none⟩ u b h]
theorem T5.set {b1 b2 b3 : Nat} {r cn : Int} {Bt Bi : Nat} {W : World} (h : T5 b1 b2 b3 r cn Bt Bi W) {c i : Nat} {u : Value} (h1 : ¬ Bt = c) (h2 : ¬ Bi = c) : T5 b1 b2 b3 r cn Bt Bi (W.setCell ⟨c, i, none⟩ u) :=
  ⟨(cell_set1 h1).trans h.1, (cell_set1 h1).trans h.2.1, (cell_set1 h1).trans h.2.2.1, (cell_set1 h2).trans h.2.2.2.1, (cell_set1 h2).trans h.2.2.2.2⟩
theorem T5.drew {b1 b2 b3 : Nat} {r cn : Int} {Bt Bi : Nat} {W : World} (h : T5 b1 b2 b3 r cn Bt Bi W) : T5 b1 b2 b3 r cn Bt Bi W.drew := h
theorem treeAt_drew {W : World} {b1 b2 b3 base : Nat} {l : List Op7} (h : TreeAt W b1 b2 b3 base l) : TreeAt W.drew b1 b2 b3 base l := h.below ((Below.refl _ _).drew)
theorem T5.three {b1 b2 b3 : Nat} {r cn : Int} {Bt Bi : Nat} {W : World} (h : T5 b1 b2 b3 r cn Bt Bi W) {c : Nat} (h1 : ¬ Bt = c) (h2 : ¬ Bi = c) (u v x : Value) : T5 b1 b2 b3 r cn Bt Bi (((W.setCell ⟨c, 0, none⟩ u).setCell ⟨c, 1, none⟩ v).setCell ⟨c, 2, none⟩ x).drew :=
  T5.drew (((h.set (i := 0) (u := u) h1 h2).set (i := 1) (u := v) h1 h2).set (i := 2) (u := x) h1 h2)
theorem T5.five {b1 b2 b3 : Nat} {r cn : Int} {Bt Bi : Nat} {W : World} (h : T5 b1 b2 b3 r cn Bt Bi W) {c d : Nat} (h1 : ¬ Bt = c) (h2 : ¬ Bi = c) (h3 : ¬ Bt = d) (h4 : ¬ Bi = d) (u v x y z : Value) : T5 b1 b2 b3 r cn Bt Bi (((((W.setCell ⟨c, 0, none⟩ u).setCell ⟨c, 1, none⟩ v).setCell ⟨c, 2, none⟩ x).setCell ⟨d, 0, none⟩ y).setCell ⟨d, 1, none⟩ z).drew :=
  T5.drew (((((h.set (i := 0) (u := u) h1 h2).set (i := 1) (u := v) h1 h2).set (i := 2) (u := x) h1 h2).set (i := 0) (u := y) h3 h4).set (i := 1) (u := z) h3 h4)
/-- Both boxes, written. -/
theorem TN.set {w W : World} (h : TN w W) (m1 m2 m3 : Value) (a b : Int) :
    (((((W.setCell ⟨w.heap.size, 0, none⟩ m1).setCell ⟨w.heap.size, 1, none⟩ m2).setCell ⟨w.heap.size, 2, none⟩ m3).setCell ⟨w.heap.size + 1, 0, none⟩ (.int .i64 a)).setCell ⟨w.heap.size + 1, 1, none⟩ (.int .i64 b)).heap[w.heap.size]? = some (.cells #[m1, m2, m3] 107 (0, 0)) ∧
    (((((W.setCell ⟨w.heap.size, 0, none⟩ m1).setCell ⟨w.heap.size, 1, none⟩ m2).setCell ⟨w.heap.size, 2, none⟩ m3).setCell ⟨w.heap.size + 1, 0, none⟩ (.int .i64 a)).setCell ⟨w.heap.size + 1, 1, none⟩ (.int .i64 b)).heap[w.heap.size + 1]? = some (.cells #[.int .i64 a, .int .i64 b] 27 (0, 0)) ∧
    Below w.heap.size w (((((W.setCell ⟨w.heap.size, 0, none⟩ m1).setCell ⟨w.heap.size, 1, none⟩ m2).setCell ⟨w.heap.size, 2, none⟩ m3).setCell ⟨w.heap.size + 1, 0, none⟩ (.int .i64 a)).setCell ⟨w.heap.size + 1, 1, none⟩ (.int .i64 b)) :=
  ⟨blk_set1 (blk_set1 (set_three h.tb) (by omega)) (by omega), set_two (blk_set1 (blk_set1 (blk_set1 h.ib (by omega)) (by omega)) (by omega)),
    ((((h.bel.setCell (p := ⟨w.heap.size, 0, none⟩) (Nat.le_refl _) _).setCell (p := ⟨w.heap.size, 1, none⟩) (Nat.le_refl _) _).setCell (p := ⟨w.heap.size, 2, none⟩) (Nat.le_refl _) _).setCell (p := ⟨w.heap.size + 1, 0, none⟩) (by show w.heap.size ≤ w.heap.size + 1; omega) _).setCell (p := ⟨w.heap.size + 1, 1, none⟩) (by show w.heap.size ≤ w.heap.size + 1; omega) _⟩
theorem TN.tree {w W : World} {b1 b2 b3 base : Nat} {l : List Op7} (hT : TreeAt W b1 b2 b3 base l) (h1 : w.heap.size + 1 < b1) (h2 : w.heap.size + 1 < b2) (h3 : w.heap.size + 1 < b3) (h4 : w.heap.size + 1 < base) (m1 m2 m3 u v : Value) :
    TreeAt (((((W.setCell ⟨w.heap.size, 0, none⟩ m1).setCell ⟨w.heap.size, 1, none⟩ m2).setCell ⟨w.heap.size, 2, none⟩ m3).setCell ⟨w.heap.size + 1, 0, none⟩ u).setCell ⟨w.heap.size + 1, 1, none⟩ v) b1 b2 b3 base l :=
  ((((hT.low (grownBy_set _ _ _ _) (by omega) (by omega) (by omega) (by omega)).low (grownBy_set _ _ _ _) (by omega) (by omega) (by omega) (by omega)).low (grownBy_set _ _ _ _) (by omega) (by omega) (by omega) (by omega)).low (grownBy_set _ _ _ _) h1 h2 h3 h4).low (grownBy_set _ _ _ _) h1 h2 h3 h4

set_option maxRecDepth 100000 in
set_option maxHeartbeats 2000000 in
theorem treeNext_any (l : List Op7) (g cap : Nat) (r : Int) (x : Addr) (w : World) (hl : OpsAt w g l) (hn : l.length ≤ 1048576) (hcap : l.length ≤ cap)
    (he : w.cell? ⟨0, 0, none⟩ = some (.iface 203 (.pointer (some x)))) (h0 : 0 < w.heap.size) :
    Calls Tryd.prog 109 #[.slice (some ⟨g, 0, none⟩) l.length cap, .int .i64 r] w fun e w' =>
      ((mayMore l r = false ∧ e = .returned (.tuple #[.agg #[.map none, .map none, .map none], .agg #[.int .i64 0, .int .i64 0], .iface 203 (.pointer (some x))])) ∨
       (mayMore l r = true ∧ ∃ b1 b2 b3 base, e = .returned (.tuple #[.agg #[.map (some b1), .map (some b2), .map (some b3)], .agg #[.int .i64 r, .int .i64 (cnt l r + 1)], .nilIface]) ∧ TreeAt w' b1 b2 b3 base l)) ∧ Below w.heap.size w w' := by
  have HL := hideIt hl
  have hgw := hl.1
  clear hl
  have HT0 : Hid (TN w ((w.alloc (.cells #[.map none, .map none, .map none] 107)).alloc (.cells #[.int .i64 0, .int .i64 0] 27)) ∧ ((w.alloc (.cells #[.map none, .map none, .map none] 107)).alloc (.cells #[.int .i64 0, .int .i64 0] 27)).heap.size = w.heap.size + 1 + 1) := by
    refine ⟨⟨(Below.heap_alloc _ _ _ (by simp)).trans (World.alloc_heap_new _ _), ?_, ((Below.refl _ _).alloc (Nat.le_refl _) _).alloc (by simp) _⟩, by simp⟩
    have h := World.alloc_heap_new (w.alloc (.cells #[.map none, .map none, .map none] 107)) (.cells #[.int .i64 0, .int .i64 0] 27)
    rw [World.size_alloc] at h
    exact h
  go_enter Tryd.func109, Tryd.ntmps109
  go_wp2_with fail
  generalize (w.alloc (.cells #[.map none, .map none, .map none] 107)).alloc (.cells #[.int .i64 0, .int .i64 0] 27) = W0 at *
  refine (treeOf_low l g cap x _ (HL.out.below HT0.out.1.bel hgw) hn hcap (errB HT0.out.1.bel h0 he) (posB HT0.out.1.bel h0)).mono ?_
  rintro e w1 ⟨(⟨ht, b1, b2, b3, base, rfl, hT, hl1, hl2, hl3, hl4⟩ | ⟨ht, rfl⟩), hb1⟩
  all_goals
    have HO := hideIt ht
    have HT1 := hideIt (HT0.out.1.below hb1)
    have hlt := HT1.out.lt
    have hlt0 : w.heap.size < w1.heap.size := by omega
    have t0 := (blk_cell HT1.out.tb 0).trans rfl
    have t1 := (blk_cell HT1.out.tb 1).trans rfl
    have t2 := (blk_cell HT1.out.tb 2).trans rfl
    have i0 := (blk_cell HT1.out.ib 0).trans rfl
    have i1 := (blk_cell HT1.out.ib 1).trans rfl
    have tf : ∀ j, w1.frozen? ⟨w.heap.size, j, none⟩ = false := fun j => by simp [World.frozen?, HT1.out.tb]
    have jf : ∀ j, w1.frozen? ⟨w.heap.size + 1, j, none⟩ = false := fun j => by simp [World.frozen?, HT1.out.ib]
    clear ht hb1
  · have HTT := hideIt hT
    have HLO : Hid (w.heap.size + 1 < b1 ∧ w.heap.size + 1 < b2 ∧ w.heap.size + 1 < b3 ∧ w.heap.size + 1 < base) := by have := HT0.out.2; refine ⟨?_, ?_, ?_, ?_⟩ <;> omega
    clear hT hl1 hl2 hl3 hl4 HT0
    go_wp2_with fail
    have HBt : Hid (Below w1.heap.size w1 (w1.alloc (.cells #[.map (some b1), .map (some b2), .map (some b3)] 107))) := (Below.refl _ _).alloc (Nat.le_refl _) _
    have HKt : Hid ((w1.alloc (.cells #[.map (some b1), .map (some b2), .map (some b3)] 107)).heap[w1.heap.size]? = some (.cells #[.map (some b1), .map (some b2), .map (some b3)] 107 (0, 0))) := World.alloc_heap_new _ _
    have HB2 := hideIt (Bstep HT1.out.bel HBt.out)
    refine (implNext_any l HO.out g cap r x _ (HL.out.below HB2.out hgw) hn hcap (errB HB2.out h0 he) (posB HB2.out h0)).mono ?_
    rintro e w3 ⟨(⟨hm, rfl⟩ | ⟨hm, rfl⟩), hb3⟩
    all_goals
      have HM := hideIt hm
      have hb13 := Bstep HBt.out hb3
      have HT3 := hideIt (HT1.out.below hb13)
      have HTR := hideIt (HTT.out.below hb13)
      have hk3 := blk_below HKt.out hb3
      have hlt3 := HT3.out.lt
      have hlt4 : w.heap.size < w3.heap.size := by omega
      have hltk : w1.heap.size < w3.heap.size := (Array.getElem?_eq_some_iff.1 hk3).1
      have u0 := (blk_cell hk3 0).trans rfl
      have u1 := (blk_cell hk3 1).trans rfl
      have u2 := (blk_cell hk3 2).trans rfl
      have a0 := (blk_cell HT3.out.tb 0).trans rfl
      have a1 := (blk_cell HT3.out.tb 1).trans rfl
      have a2 := (blk_cell HT3.out.tb 2).trans rfl
      have c0 := (blk_cell HT3.out.ib 0).trans rfl
      have c1 := (blk_cell HT3.out.ib 1).trans rfl
      have af : ∀ j, w3.frozen? ⟨w.heap.size, j, none⟩ = false := fun j => by simp [World.frozen?, HT3.out.tb]
      have cf : ∀ j, w3.frozen? ⟨w.heap.size + 1, j, none⟩ = false := fun j => by simp [World.frozen?, HT3.out.ib]
      have nk0 : ¬ w1.heap.size = w.heap.size := by omega
      have nk1 : ¬ w1.heap.size = w.heap.size + 1 := by omega
      clear t0 t1 t2 i0 i1 tf jf hm hb3 hb13 hk3 HTT HT1 HBt HKt HB2
    · go_wp2
      obtain ⟨z1, z2, z3⟩ := HT3.out.set (.map none) (.map none) (.map none) 0 0
      generalize (((((w3.setCell ⟨w.heap.size, 0, none⟩ (.map none)).setCell ⟨w.heap.size, 1, none⟩ (.map none)).setCell ⟨w.heap.size, 2, none⟩ (.map none)).setCell ⟨w.heap.size + 1, 0, none⟩ (.int .i64 0)).setCell ⟨w.heap.size + 1, 1, none⟩ (.int .i64 0)) = WZ at *
      have HBZ := (Below.refl WZ.heap.size WZ).alloc (Nat.le_refl _) (.cells #[.int .i64 0, .int .i64 0] 27)
      have y1 := blk_below z1 HBZ
      have y2 := blk_below z2 HBZ
      have v0 := (blk_cell y1 0).trans rfl
      have v1 := (blk_cell y1 1).trans rfl
      have v2 := (blk_cell y1 2).trans rfl
      have v3 := (blk_cell y2 0).trans rfl
      have v4 := (blk_cell y2 1).trans rfl
      exact bodyPost_ret (v := .tuple #[.agg #[.map none, .map none, .map none], .agg #[.int .i64 0, .int .i64 0], .iface 203 (.pointer (some x))]) (by simp [results, Tryd.results109, go_sem, v0, v1, v2, v3, v4]) rfl ⟨.inl ⟨HM.out, rfl⟩, Bstep z3 HBZ⟩
    · generalize hcn : cnt l r + 1 = cn at *
      have HCN := hideIt hcn
      clear hcn
      go_wp2
      obtain ⟨Wm, hWm⟩ : ∃ Wm, w3.alloc (.cells #[.int .i64 r, .int .i64 cn] 27) = Wm := ⟨_, rfl⟩
      have hbm : Below w3.heap.size w3 Wm := by rw [← hWm]; exact (Below.refl _ _).alloc (Nat.le_refl _) _
      have hmk : Wm.heap[w3.heap.size]? = some (.cells #[.int .i64 r, .int .i64 cn] 27 (0, 0)) := by rw [← hWm]; exact World.alloc_heap_new _ _
      have HTM := hideIt (HT3.out.below hbm)
      have HTW := hideIt (HTR.out.below hbm)
      have u0' := ((bcell hbm).1 w1.heap.size 0 hltk).trans u0
      have u1' := ((bcell hbm).1 w1.heap.size 1 hltk).trans u1
      have u2' := ((bcell hbm).1 w1.heap.size 2 hltk).trans u2
      rw [hWm]
      clear hWm hbm u0 u1 u2 a0 a1 a2 c0 c1 af cf HTR HT3
      have a0 := (blk_cell HTM.out.tb 0).trans rfl
      have a1 := (blk_cell HTM.out.tb 1).trans rfl
      have a2 := (blk_cell HTM.out.tb 2).trans rfl
      have c0 := (blk_cell HTM.out.ib 0).trans rfl
      have c1 := (blk_cell HTM.out.ib 1).trans rfl
      have m0 := (blk_cell hmk 0).trans rfl
      have m1 := (blk_cell hmk 1).trans rfl
      have af : ∀ j, Wm.frozen? ⟨w.heap.size, j, none⟩ = false := fun j => by simp [World.frozen?, HTM.out.tb]
      have cf : ∀ j, Wm.frozen? ⟨w.heap.size + 1, j, none⟩ = false := fun j => by simp [World.frozen?, HTM.out.ib]
      clear hmk
      generalize w3.heap.size = Bi at *
      generalize w1.heap.size = Bt at *
      have nb0 : ¬ Bi = w.heap.size := by omega
      have nb1 : ¬ Bi = w.heap.size + 1 := by omega
      have K1 : Hid (T5 b1 b2 b3 r cn Bt Bi Wm) := ⟨u0', u1', u2', m0, m1⟩
      have K2 : Hid ((((Wm.setCell ⟨w.heap.size, 0, none⟩ (.map (some b1))).setCell ⟨w.heap.size, 1, none⟩ (.map (some b2))).setCell ⟨w.heap.size, 2, none⟩ (.map (some b3))).drew.cell? ⟨Bt, 0, none⟩ = some (.map (some b1)) ∧ (((Wm.setCell ⟨w.heap.size, 0, none⟩ (.map (some b1))).setCell ⟨w.heap.size, 1, none⟩ (.map (some b2))).setCell ⟨w.heap.size, 2, none⟩ (.map (some b3))).drew.cell? ⟨Bt, 1, none⟩ = some (.map (some b2)) ∧ (((Wm.setCell ⟨w.heap.size, 0, none⟩ (.map (some b1))).setCell ⟨w.heap.size, 1, none⟩ (.map (some b2))).setCell ⟨w.heap.size, 2, none⟩ (.map (some b3))).drew.cell? ⟨Bt, 2, none⟩ = some (.map (some b3)) ∧ (((Wm.setCell ⟨w.heap.size, 0, none⟩ (.map (some b1))).setCell ⟨w.heap.size, 1, none⟩ (.map (some b2))).setCell ⟨w.heap.size, 2, none⟩ (.map (some b3))).drew.cell? ⟨Bi, 0, none⟩ = some (.int .i64 r) ∧ (((Wm.setCell ⟨w.heap.size, 0, none⟩ (.map (some b1))).setCell ⟨w.heap.size, 1, none⟩ (.map (some b2))).setCell ⟨w.heap.size, 2, none⟩ (.map (some b3))).drew.cell? ⟨Bi, 1, none⟩ = some (.int .i64 cn)) := T5.three K1.out nk0 nb0 _ _ _
      have K3 : Hid ((((((Wm.setCell ⟨w.heap.size, 0, none⟩ (.map (some b1))).setCell ⟨w.heap.size, 1, none⟩ (.map (some b2))).setCell ⟨w.heap.size, 2, none⟩ (.map (some b3))).setCell ⟨w.heap.size + 1, 0, none⟩ (.int .i64 r)).setCell ⟨w.heap.size + 1, 1, none⟩ (.int .i64 cn)).drew.cell? ⟨Bt, 0, none⟩ = some (.map (some b1)) ∧ (((((Wm.setCell ⟨w.heap.size, 0, none⟩ (.map (some b1))).setCell ⟨w.heap.size, 1, none⟩ (.map (some b2))).setCell ⟨w.heap.size, 2, none⟩ (.map (some b3))).setCell ⟨w.heap.size + 1, 0, none⟩ (.int .i64 r)).setCell ⟨w.heap.size + 1, 1, none⟩ (.int .i64 cn)).drew.cell? ⟨Bt, 1, none⟩ = some (.map (some b2)) ∧ (((((Wm.setCell ⟨w.heap.size, 0, none⟩ (.map (some b1))).setCell ⟨w.heap.size, 1, none⟩ (.map (some b2))).setCell ⟨w.heap.size, 2, none⟩ (.map (some b3))).setCell ⟨w.heap.size + 1, 0, none⟩ (.int .i64 r)).setCell ⟨w.heap.size + 1, 1, none⟩ (.int .i64 cn)).drew.cell? ⟨Bt, 2, none⟩ = some (.map (some b3)) ∧ (((((Wm.setCell ⟨w.heap.size, 0, none⟩ (.map (some b1))).setCell ⟨w.heap.size, 1, none⟩ (.map (some b2))).setCell ⟨w.heap.size, 2, none⟩ (.map (some b3))).setCell ⟨w.heap.size + 1, 0, none⟩ (.int .i64 r)).setCell ⟨w.heap.size + 1, 1, none⟩ (.int .i64 cn)).drew.cell? ⟨Bi, 0, none⟩ = some (.int .i64 r) ∧ (((((Wm.setCell ⟨w.heap.size, 0, none⟩ (.map (some b1))).setCell ⟨w.heap.size, 1, none⟩ (.map (some b2))).setCell ⟨w.heap.size, 2, none⟩ (.map (some b3))).setCell ⟨w.heap.size + 1, 0, none⟩ (.int .i64 r)).setCell ⟨w.heap.size + 1, 1, none⟩ (.int .i64 cn)).drew.cell? ⟨Bi, 1, none⟩ = some (.int .i64 cn)) := T5.five K1.out nk0 nb0 nk1 nb1 _ _ _ _ _
      have K1' : Hid (Wm.drew.cell? ⟨Bt, 0, none⟩ = some (.map (some b1)) ∧ Wm.drew.cell? ⟨Bt, 1, none⟩ = some (.map (some b2)) ∧ Wm.drew.cell? ⟨Bt, 2, none⟩ = some (.map (some b3)) ∧ Wm.drew.cell? ⟨Bi, 0, none⟩ = some (.int .i64 r) ∧ Wm.drew.cell? ⟨Bi, 1, none⟩ = some (.int .i64 cn)) := K1.out
      go_region_held3 (fun w' => w'.cell? ⟨Bt, 0, none⟩ = some (.map (some b1)) ∧ w'.cell? ⟨Bt, 1, none⟩ = some (.map (some b2)) ∧ w'.cell? ⟨Bt, 2, none⟩ = some (.map (some b3)) ∧ w'.cell? ⟨Bi, 0, none⟩ = some (.int .i64 r) ∧ w'.cell? ⟨Bi, 1, none⟩ = some (.int .i64 cn))
        (first | with_reducible exact K1'.out | with_reducible exact K2.out | with_reducible exact K3.out)
        (fail)
      go_wp2
      rename_i hHH
      clear hHH K2 K3 K1' K1
      obtain ⟨z1, z2, z3⟩ := HTM.out.set (.map (some b1)) (.map (some b2)) (.map (some b3)) r cn
      have hTZ := TN.tree HTW.out HLO.out.1 HLO.out.2.1 HLO.out.2.2.1 HLO.out.2.2.2 (.map (some b1)) (.map (some b2)) (.map (some b3)) (.int .i64 r) (.int .i64 cn)
      generalize (((((Wm.setCell ⟨w.heap.size, 0, none⟩ (.map (some b1))).setCell ⟨w.heap.size, 1, none⟩ (.map (some b2))).setCell ⟨w.heap.size, 2, none⟩ (.map (some b3))).setCell ⟨w.heap.size + 1, 0, none⟩ (.int .i64 r)).setCell ⟨w.heap.size + 1, 1, none⟩ (.int .i64 cn)) = WZ at *
      have v0 := (blk_cell z1 0).trans rfl
      have v1 := (blk_cell z1 1).trans rfl
      have v2 := (blk_cell z1 2).trans rfl
      have v3 := (blk_cell z2 0).trans rfl
      have v4 := (blk_cell z2 1).trans rfl
      exact bodyPost_ret (v := .tuple #[.agg #[.map (some b1), .map (some b2), .map (some b3)], .agg #[.int .i64 r, .int .i64 cn], .nilIface]) (by simp [results, Tryd.results109, go_sem, v0, v1, v2, v3, v4]) rfl ⟨.inr ⟨HM.out, b1, b2, b3, base, by rw [HCN.out], treeAt_drew hTZ⟩, z3.drew⟩
  · have HM : Hid (mayMore l r = false) := by show mayMore l r = false; unfold mayMore; rw [HO.out]; rfl
    go_wp2
    obtain ⟨z1, z2, z3⟩ := HT1.out.set (.map none) (.map none) (.map none) 0 0
    have HBZ := (Below.refl (((((w1.setCell ⟨w.heap.size, 0, none⟩ (.map none)).setCell ⟨w.heap.size, 1, none⟩ (.map none)).setCell ⟨w.heap.size, 2, none⟩ (.map none)).setCell ⟨w.heap.size + 1, 0, none⟩ (.int .i64 0)).setCell ⟨w.heap.size + 1, 1, none⟩ (.int .i64 0)).heap.size (((((w1.setCell ⟨w.heap.size, 0, none⟩ (.map none)).setCell ⟨w.heap.size, 1, none⟩ (.map none)).setCell ⟨w.heap.size, 2, none⟩ (.map none)).setCell ⟨w.heap.size + 1, 0, none⟩ (.int .i64 0)).setCell ⟨w.heap.size + 1, 1, none⟩ (.int .i64 0))).alloc (Nat.le_refl _) (.cells #[.map none, .map none, .map none] 107)
    have y1 := blk_below z1 HBZ
    have y2 := blk_below z2 HBZ
    have v0 := (blk_cell y1 0).trans rfl
    have v1 := (blk_cell y1 1).trans rfl
    have v2 := (blk_cell y1 2).trans rfl
    have v3 := (blk_cell y2 0).trans rfl
    have v4 := (blk_cell y2 1).trans rfl
    exact bodyPost_ret (v := .tuple #[.agg #[.map none, .map none, .map none], .agg #[.int .i64 0, .int .i64 0], .iface 203 (.pointer (some x))]) (by simp [results, Tryd.results109, go_sem, v0, v1, v2, v3, v4]) rfl ⟨.inl ⟨HM.out, rfl⟩, Bstep z3 HBZ⟩
end Go.Proofs.YtedanlmippfojaaDoor

namespace Go.Proofs.YtedanlmippfojaaDoor
open Go.RowKit Go.Shelf
open Go.Maps (Keyed)
set_option linter.unusedSimpArgs false
set_option linter.unusedVariables false
attribute [local go_sem ↓] Go.wp_at_zero Go.wp_at_succ

set_option maxHeartbeats 1000000 in
theorem implOps_nil (l : List Op7) (hL0 : l = []) (x : Addr) (w : World)
    (he : w.cell? ⟨0, 0, none⟩ = some (.iface 203 (.pointer (some x)))) (h0 : 0 < w.heap.size) :
    Calls Tryd.prog 36 #[.slice none 0 0] w fun e w' => e = .returned (.bool (thB l)) ∧ Below w.heap.size w w' := by
  have HN := hideIt hL0
  have hn : l.length ≤ 1048576 := by rw [hL0]; simp
  clear hL0
  go_enter Tryd.func36, Tryd.ntmps36
  go_wp2_with fail
  refine (things_nil l HN.out x _ he h0).mono ?_
  rintro e w1 ⟨(⟨ht, M, _, rfl, hT⟩ | ⟨ht, rfl⟩), hb1⟩
  all_goals
    have HT := hideIt ht
    have HB1 := hideIt hb1
    have herr1 : w1.cell? ⟨0, 0, none⟩ = some (.iface 203 (.pointer (some x))) := by rw [(bcell hb1).1 _ _ h0]; exact he
    clear ht hb1
  · clear hT
    go_wp2_with (first | (go_at_call 68; refine (is_nil x _).mono ?_; rintro e w'' ⟨rfl, rfl⟩))
    go_ret
    exact ⟨ret_bool HT.out.symm, HB1.out⟩
  · go_wp2_with (first | (go_at_call 68; refine (is_same x _).mono ?_; rintro e w'' ⟨rfl, rfl⟩))
    go_ret
    exact ⟨ret_bool HT.out.symm, HB1.out⟩

set_option maxHeartbeats 1000000 in
theorem implSeen_nil (l : List Op7) (hL0 : l = []) (x : Addr) (w : World)
    (he : w.cell? ⟨0, 0, none⟩ = some (.iface 203 (.pointer (some x)))) (h0 : 0 < w.heap.size) :
    Calls Tryd.prog 18 #[.slice none 0 0] w fun e w' =>
      ((opsB l = true ∧ ∃ G, w.heap.size ≤ G ∧ e = .returned (.slice (some ⟨G, 0, none⟩) 3 3) ∧ IntsAt w' G [cnt l 1, cnt l 2, cnt l 3] ∧ ∀ j, w'.frozen? ⟨G, j, none⟩ = false) ∨ (opsB l = false ∧ e = .returned (.slice none 0 0))) ∧ Below w.heap.size w w' := by
  have HN := hideIt hL0
  have hn : l.length ≤ 1048576 := by rw [hL0]; simp
  clear hL0
  go_enter Tryd.func18, Tryd.ntmps18
  go_wp2_with fail
  refine (things_nil l HN.out x _ he h0).mono ?_
  rintro e w1 ⟨(⟨ht, M, hMM, rfl, hT⟩ | ⟨ht, rfl⟩), hb1⟩
  all_goals
    have HT := hideIt ((th_same l).symm.trans ht)
    have HB1 := hideIt hb1
    have herr1 : w1.cell? ⟨0, 0, none⟩ = some (.iface 203 (.pointer (some x))) := errB hb1 h0 he
    clear ht hb1
  · have HTT := hideIt hT
    have HOK := hideIt (opsB_parts HT.out).1
    clear hT hMM
    go_wp2_with (first | (go_at_call 68; refine (is_nil x _).mono ?_; rintro e w'' ⟨rfl, rfl⟩))
    refine (count_any l M l.length _ HTT.out hn (Nat.le_refl _) HOK.out).mono ?_
    rintro e w2 ⟨rfl, hse, hfz, hb2⟩
    have HSE := hideIt hse
    have HF := hideIt hfz
    have HB2 := hideIt (Bstep HB1.out hb2)
    clear hse hfz hb2
    go_wp2
    go_ret
    exact ⟨.inl ⟨HT.out, _, HB1.out.size, rfl, HSE.out, HF.out⟩, HB2.out⟩
  · go_wp2_with (first | (go_at_call 68; refine (is_same x _).mono ?_; rintro e w'' ⟨rfl, rfl⟩))
    go_ret
    exact ⟨.inr ⟨HT.out, rfl⟩, HB1.out⟩

set_option maxRecDepth 100000 in
set_option maxHeartbeats 4000000 in
theorem treeOf_lowN (l : List Op7) (hL0 : l = []) (x : Addr) (w : World)
    (he : w.cell? ⟨0, 0, none⟩ = some (.iface 203 (.pointer (some x)))) (h0 : 0 < w.heap.size) :
    Calls Tryd.prog 76 #[.slice none 0 0] w fun e w' =>
      ((opsB l = true ∧ ∃ b1 b2 b3 base, e = .returned (.tuple #[.agg #[.map (some b1), .map (some b2), .map (some b3)], .nilIface]) ∧ TreeAt w' b1 b2 b3 base l ∧ w.heap.size < b1 ∧ w.heap.size < b2 ∧ w.heap.size < b3 ∧ w.heap.size < base) ∨
       (opsB l = false ∧ e = .returned (.tuple #[.agg #[.map none, .map none, .map none], .iface 203 (.pointer (some x))]))) ∧ Below w.heap.size w w' := by
  have HN := hideIt hL0
  have hn : l.length ≤ 1048576 := by rw [hL0]; simp
  clear hL0
  have hmm := @run_makeMap Tryd.prog
  go_enter Tryd.func76, Tryd.ntmps76
  go_wp2_with fail
  have HB0 : Hid (Below w.heap.size w (w.alloc (.cells #[.map none, .map none, .map none] 107))) := (Below.refl _ _).alloc (Nat.le_refl _) _
  refine (things_nil l HN.out x _ (errB HB0.out h0 he) (posB HB0.out h0)).mono ?_
  rintro e w1 ⟨(⟨ht, M, hMM, rfl, hT⟩ | ⟨ht, rfl⟩), hb1⟩
  all_goals
    rw [th_same] at ht
    have HT := hideIt ht
    have HB1 := hideIt (Bstep HB0.out hb1)
    have r0 : w1.cell? ⟨w.heap.size, 0, none⟩ = some (.map none) := by rw [(bcell hb1).1 _ _ (by simp)]; simp [go_sem]
    have r1 : w1.cell? ⟨w.heap.size, 1, none⟩ = some (.map none) := by rw [(bcell hb1).1 _ _ (by simp)]; simp [go_sem]
    have r2 : w1.cell? ⟨w.heap.size, 2, none⟩ = some (.map none) := by rw [(bcell hb1).1 _ _ (by simp)]; simp [go_sem]
    have rf : ∀ j, w1.frozen? ⟨w.heap.size, j, none⟩ = false := fun j => by rw [(bcell hb1).2 _ _ (by simp)]; simp [go_sem]
    have hz1 : w.heap.size < w1.heap.size := by have := hb1.size; simp at this; omega
    clear ht hb1
  · have HTT := hideIt hT
    have hM1 := hT.1
    clear hT
    obtain ⟨hok, hord⟩ := opsParts HT.out
    have HOK := hideIt hok
    have HI0 : Hid (TInv w w1 ((((w1.alloc (.map #[] 0)).alloc (.map #[] 0)).alloc (.map #[] 0)).alloc (.cells #[.map (some w1.heap.size), .map (some (w1.heap.size + 1)), .map (some (w1.heap.size + 1 + 1))] 107)) 0 l) := tinv_start HB1.out
    clear hok hord
    go_wp2_with fail
    generalize hTB : w1.heap.size + 1 + 1 + 1 = tb
    go_loopw [27] (fun i wr => ∃ k : Nat, k ≤ l.length ∧ i = .int .i64 k ∧ TInv w w1 wr k l)
      (fun i _ => l.length - (intOf i).toNat)
    case atStart => exact ⟨0, Nat.zero_le _, rfl, HI0.out⟩
    case round =>
      obtain ⟨k, hk, rfl, hI⟩ := hrel
      have HI := hideIt hI
      have t0 := hI.t0
      have t1 := hI.t1
      have t2 := hI.t2
      rw [hTB] at t0 t1 t2
      have hzr := hI.sz
      have HTr := hideIt (HTT.out.below hI.old hM1)
      have hT3 : tb < wr.heap.size := by omega
      have hMr : M < wr.heap.size := by omega
      have hwr : w.heap.size < wr.heap.size := by omega
      have q0 := ((bcell hI.old).1 w.heap.size 0 hz1).trans r0
      have q1 := ((bcell hI.old).1 w.heap.size 1 hz1).trans r1
      have q2 := ((bcell hI.old).1 w.heap.size 2 hz1).trans r2
      have qf : ∀ j, wr.frozen? ⟨w.heap.size, j, none⟩ = false := fun j => ((bcell hI.old).2 w.heap.size j hz1).trans (rf j)
      clear hI HI0
      by_cases hlt : k < l.length
      · have hc := HTr.out.2 k l[k] (by simp [hlt])
        have hoo := all_iff.1 HOK.out k hlt
        have htk : Hid (l.take (k + 1) = l.take k ++ [l[k]]) := List.take_succ_eq_append_getElem hlt
        generalize l[k] = o at *
        have hlt' : (k : Int) < (l.length : Int) := by omega
        have hk0 : (0 : Int) ≤ (k : Int) := by omega
        have as1 := Tryd.asPut
        have as2 := Tryd.asNoPut
        have as3 := Tryd.asTake
        have hnum := okO_num hoo
        rcases thV_cases hoo with ⟨e1, e2⟩ | ⟨e1, e2⟩
        · rw [e1] at hc
          have hS := tinv_put1 HI.out (Nat.le_of_lt hz1) (.cells #[.int .i64 o.a, .int .i64 o.b, .int .i64 o.c, .int .i64 o.d, .int .i64 o.s, .int .i64 o.g] 136) (.cells #[.int .i64 o.c, .int .i64 o.d, .int .i64 o.s] 132)
          have HS := hideIt hS
          obtain ⟨kl, hkl⟩ := key_id (r := o.a) (m := o.b) (wf_small (by omega)) (wf_small (by omega))
          obtain ⟨ks, hks⟩ := key_spot (r := o.c) (m := o.d) (s := o.s) (wf_small (by omega)) (wf_small (by omega)) (wf_small (by omega))
          have HKL := hideIt hkl
          have HKS := hideIt hks
          obtain ⟨i0, hi, hz0, hz1', hz2⟩ := info_parts infoPut
          have HI1 := hideIt hi
          have HZ0 := hideIt hz0
          have HZ1 := hideIt hz1'
          have HZ2 := hideIt hz2
          have hkl1 := kids_le (l.take k) (o.c, o.d, o.s)
          have hkl2 : (l.take k).length ≤ k := List.length_take_le _ _
          clear hS hkl hks hi hz0 hz1' hz2
          go_wp2_with (first
            | (at_mapUpdate; refine wpList_store_fn (t := 103) (e := 136) rfl _ _ _ rfl keyedId Tryd.underlying103 encId_inj rfl HS.out.sg (o.a, o.b) rfl kl HKL.out _ rfl ?_; intro w2 hM2 hg2; have H2 := hideIt (TI.sign HS.out (Nat.le_of_lt hz1) hg2 hM2);
                have c2 : ∀ j, w2.cell? ⟨wr.heap.size, j, none⟩ = _ := (fun j => grown_cell hg2 (by simp; omega) (by simp; omega) j);
                have d2 : ∀ j, w2.cell? ⟨wr.heap.size + 1, j, none⟩ = _ := (fun j => grown_cell hg2 (by simp) (by simp; omega) j);
                have s2 : wr.heap.size + 1 < w2.heap.size := (by have := hg2.size; simp at this; omega); have s2' : wr.heap.size < w2.heap.size := (by omega);
                have u0 := H2.out.t0; have u1 := H2.out.t1; have u2 := H2.out.t2; rw [hTB] at u0 u1 u2; have hT4 : tb < w2.heap.size := (by omega); clear hM2 hg2)
            | (have H2a := hideIt (TI.grown H2.out (Nat.le_of_lt hz1) (World.grownBy_alloc w2 (.cells #[.int .i64 o.a, .int .i64 o.b, .int .i64 o.c, .int .i64 o.d, .int .i64 o.s, .int .i64 o.g] 136) none)); obtain ⟨f, hf⟩ := H2a.out.kd; obtain ⟨v0, hv0⟩ : ∃ v0, (f (o.c, o.d, o.s)).getD (.slice none 0 0) = v0 := ⟨_, rfl⟩;
                refine wpList_entry_fn (t := 104) (e := 130) rfl _ _ rfl keyedSpot Tryd.underlying104 (.slice none 0 0) (zeroSlice _) encSpot_inj rfl hf.1 (o.c, o.d, o.s) rfl ks HKS.out v0 hv0 ?_; intro w3 sx hM3 hg3;
                have HM3 := hideIt hM3; have H3 := hideIt (TI.entry H2a.out (Nat.le_of_lt hz1) hf (o.c, o.d, o.s) hg3 (by rw [hv0]; exact hM3.fn));
                have HK3 : Hid (KidsFn w3 (w1.heap.size + 1) (w1.heap.size + 4) (l.take k) (upd f (o.c, o.d, o.s) v0)) := (by have h := hf.entry (o.c, o.d, o.s) hg3 (by rw [hv0]; exact hM3.fn); rw [hv0] at h; exact h);
                have HOW : Hid (w3.ownsRow (w1.heap.size + 4) 136 6 v0 (kidsL (l.take k) (o.c, o.d, o.s)).length (putCells (kidsL (l.take k) (o.c, o.d, o.s)))) := (by have h := HK3.out.at (o.c, o.d, o.s); rw [upd_same] at h; exact h);
                have HNW : Hid (∀ j u, ([.int .i64 o.a, .int .i64 o.b, .int .i64 o.c, .int .i64 o.d, .int .i64 o.s, .int .i64 o.g] : List Value)[j]? = some u → w3.cell? ((⟨w2.heap.size, 0, none⟩ : Addr).add j) = some u) := (fun j u hj => by have h := cells_new w2 [.int .i64 o.a, .int .i64 o.b, .int .i64 o.c, .int .i64 o.d, .int .i64 o.s, .int .i64 o.g] 136 j u hj; rw [Addr.add_lit] at h ⊢; rw [grown_cell hg3 (by simp) (some_ne (by omega))]; exact h);
                have s3 : w1.heap.size + 4 ≤ w3.heap.size := H3.out.sz; clear hM3 hg3 hf H2a)
            | (at_builtin; refine wpList_append_own_at _ rfl _ _ 130 rfl (w1.heap.size + 4) 136 i0 _ 6 48 Tryd.underlying130 HI1.out HZ0.out HZ1.out HZ2.out rfl (by decide) v0 _ _ rfl HOW.out ⟨w2.heap.size, 0, none⟩ 1 1 [.int .i64 o.a, .int .i64 o.b, .int .i64 o.c, .int .i64 o.d, .int .i64 o.s, .int .i64 o.g] rfl rfl HNW.out ints_one (by unfold maxLen; omega) (by omega) s3 ?_; intro v' w4 hown4 hg4 _ hloc;
                have HO4 := hideIt hown4; have HG4 := hideIt hg4; have HLC := hideIt hloc; clear hown4 hg4 hloc)
            | (refine wpList_write_fn (t := 104) rfl _ _ _ rfl encSpot_inj rfl (HM3.out.kept HG4.out (fun e => by have h1 := (HOW.out.lt _ e.symm).1; omega)) rfl ks HKS.out _ rfl ?_; intro w5 hM5 hg5; have HEND := hideIt (TI.put_end (Nat.le_of_lt hz1) H3.out HK3.out e2 htk.out HO4.out HG4.out HLC.out hM5 hg5); clear hM5 hg5))
          exact ⟨⟨k + 1, by omega, by go_num, HEND.out⟩, by simp [intOf]; omega⟩
        · rw [e1] at hc
          have hne1 : o.k ≠ 1 := by omega
          obtain ⟨kl, hkl⟩ := key_id (r := o.c) (m := o.d) (wf_small (by omega)) (wf_small (by omega))
          obtain ⟨nn, hnn⟩ : ∃ nn, takesN (l.take k) (o.c, o.d) = nn := ⟨_, rfl⟩
          have hnl : nn ≤ 1048576 := by
            have h1 := takesN_le (l.take k) (o.c, o.d)
            have h2 : (l.take k).length ≤ k := List.length_take_le _ _
            omega
          have HW := hideIt (TI.drew (TI.grown HI.out (Nat.le_of_lt hz1) (World.grownBy_alloc wr (.cells #[.int .i64 o.a, .int .i64 o.b, .int .i64 o.c, .int .i64 o.d] 174) none)))
          obtain ⟨w2, w3, sx, L0, E0, L2, S2, hg2, hg3, hEND⟩ := take_runs (Nat.le_of_lt hz1) HW.out hne1 htk.out hkl hnn
          have HEND := hideIt hEND
          have n0 : (0 : Int) ≤ (nn : Int) := by omega
          have n1 : (nn : Int) ≤ 1048576 := by omega
          have hwn : IntKind.i64.wrap ((nn : Int) + 1) = (nn : Int) + 1 := IntWalk.i64_in _ ⟨by omega, by omega⟩
          have z2 := hg2.size
          simp at z2
          have k1 : (wr.alloc (.cells #[.int .i64 o.a, .int .i64 o.b, .int .i64 o.c, .int .i64 o.d] 174)).drew.cell? ⟨tb, 2, none⟩ = some (.map (some (w1.heap.size + 1 + 1))) ∧ (wr.alloc (.cells #[.int .i64 o.a, .int .i64 o.b, .int .i64 o.c, .int .i64 o.d] 174)).drew.cell? ⟨wr.heap.size, 2, none⟩ = some (.int .i64 o.c) ∧ (wr.alloc (.cells #[.int .i64 o.a, .int .i64 o.b, .int .i64 o.c, .int .i64 o.d] 174)).drew.cell? ⟨wr.heap.size, 3, none⟩ = some (.int .i64 o.d) := by
            refine ⟨?_, by simp [go_sem], by simp [go_sem]⟩
            have := HW.out.t2
            rw [hTB] at this
            exact this
          have k2 : w2.cell? ⟨tb, 2, none⟩ = some (.map (some (w1.heap.size + 1 + 1))) ∧ w2.cell? ⟨wr.heap.size, 2, none⟩ = some (.int .i64 o.c) ∧ w2.cell? ⟨wr.heap.size, 3, none⟩ = some (.int .i64 o.d) :=
            ⟨(grown_cell hg2 (by simp; omega) (some_ne (by omega)) _).trans k1.1, (grown_cell hg2 (by simp) (some_ne (by omega)) _).trans k1.2.1, (grown_cell hg2 (by simp) (some_ne (by omega)) _).trans k1.2.2⟩
          have k3 : w3.cell? ⟨tb, 2, none⟩ = some (.map (some (w1.heap.size + 1 + 1))) ∧ w3.cell? ⟨wr.heap.size, 2, none⟩ = some (.int .i64 o.c) ∧ w3.cell? ⟨wr.heap.size, 3, none⟩ = some (.int .i64 o.d) :=
            ⟨(grown_cell hg3 (by omega) (some_ne (by omega)) _).trans k2.1, (grown_cell hg3 (by omega) (some_ne (by omega)) _).trans k2.2.1, (grown_cell hg3 (by omega) (some_ne (by omega)) _).trans k2.2.2⟩
          have K1 := hideIt k1
          have K2 := hideIt k2
          have K3 := hideIt k3
          clear k1 k2 k3 hg2 hg3 hEND hkl hnn
          go_wp2_with fail
          go_region_held3 (fun w' => w'.cell? ⟨tb, 2, none⟩ = some (.map (some (w1.heap.size + 1 + 1))) ∧ w'.cell? ⟨wr.heap.size, 2, none⟩ = some (.int .i64 o.c) ∧ w'.cell? ⟨wr.heap.size, 3, none⟩ = some (.int .i64 o.d))
            (first | exact K1.out | exact K2.out | exact K3.out)
            (fail)
          all_goals
            go_wp2
            exact ⟨⟨k + 1, by omega, by go_num, HEND.out⟩, by simp [intOf]; omega⟩
      · obtain rfl : k = l.length := by omega
        have HEND := hideIt HI.out
        go_wp2
        refine bodyPost_ret (v := .tuple #[.agg #[.map (some w1.heap.size), .map (some (w1.heap.size + 1)), .map (some (w1.heap.size + 1 + 1))], .nilIface]) (by simp [results, Tryd.results76, go_sem, q0, q1, q2, t0, t1, t2]) rfl ⟨.inl ⟨HT.out, _, _, _, w1.heap.size + 4, rfl, ?_, by omega, by omega, by omega, by omega⟩, ?_⟩
        · have h := HEND.out
          unfold TInv at h
          rw [List.take_length] at h
          obtain ⟨f, hf⟩ := h.kd
          have hg := ((set_cell_grown wr ⟨w.heap.size, 0, none⟩ (.map (some w1.heap.size))).trans (set_cell_grown _ ⟨w.heap.size, 1, none⟩ (.map (some (w1.heap.size + 1))))).trans (set_cell_grown _ ⟨w.heap.size, 2, none⟩ (.map (some (w1.heap.size + 1 + 1))))
          exact ⟨h.sg.kept hg (some_ne (by show w1.heap.size ≠ w.heap.size; omega)), ⟨f, hf.kept hg (fun j e => by have e' := Option.some.inj e; dsimp only at e'; omega)⟩, h.tk.kept hg (some_ne (by show w1.heap.size + 1 + 1 ≠ w.heap.size; omega))⟩
        · exact ((HEND.out.bel.setCell (Nat.le_refl _) _).setCell (Nat.le_refl _) _).setCell (Nat.le_refl _) _
  · go_wp2
    refine bodyPost_ret (v := .tuple #[.agg #[.map none, .map none, .map none], .iface 203 (.pointer (some x))]) (by simp [results, Tryd.results76, go_sem, r0, r1, r2]) rfl ⟨.inr ⟨HT.out, rfl⟩, ?_⟩
    exact ((HB1.out.setCell (Nat.le_refl _) _).setCell (Nat.le_refl _) _).setCell (Nat.le_refl _) _

theorem treeOf_nil (l : List Op7) (hL0 : l = []) (x : Addr) (w : World)
    (he : w.cell? ⟨0, 0, none⟩ = some (.iface 203 (.pointer (some x)))) (h0 : 0 < w.heap.size) :
    Calls Tryd.prog 76 #[.slice none 0 0] w fun e w' =>
      ((opsB l = true ∧ ∃ b1 b2 b3 base, e = .returned (.tuple #[.agg #[.map (some b1), .map (some b2), .map (some b3)], .nilIface]) ∧ TreeAt w' b1 b2 b3 base l) ∨
       (opsB l = false ∧ e = .returned (.tuple #[.agg #[.map none, .map none, .map none], .iface 203 (.pointer (some x))]))) ∧ Below w.heap.size w w' :=
  (treeOf_lowN l hL0 x w he h0).mono fun e w' ⟨h, hb⟩ => ⟨h.elim (fun ⟨h1, b1, b2, b3, base, h2, h3, _⟩ => .inl ⟨h1, b1, b2, b3, base, h2, h3⟩) .inr, hb⟩

set_option maxRecDepth 100000 in
set_option maxHeartbeats 2000000 in
theorem implNext_nil (l : List Op7) (hL0 : l = []) (hops : opsB l = true) (r : Int) (x : Addr) (w : World)
    (he : w.cell? ⟨0, 0, none⟩ = some (.iface 203 (.pointer (some x)))) (h0 : 0 < w.heap.size) :
    Calls Tryd.prog 133 #[.slice none 0 0, .int .i64 r] w fun e w' =>
      ((mayMore l r = false ∧ e = .returned (.tuple #[.agg #[.int .i64 0, .int .i64 0], .iface 203 (.pointer (some x))])) ∨
       (mayMore l r = true ∧ e = .returned (.tuple #[.agg #[.int .i64 r, .int .i64 (cnt l r + 1)], .nilIface]))) ∧ Below w.heap.size w w' := by
  have HN := hideIt hL0
  have hn : l.length ≤ 1048576 := by rw [hL0]; simp
  have HO := hideIt hops
  have HMM : Hid (mayMore l r = (inB r 1 3 && decide (cnt l r + 1 ≤ 12))) := by show mayMore l r = _; unfold mayMore; rw [hops]; rfl
  clear hL0 hops
  have HB0 : Hid (Below w.heap.size w (w.alloc (.cells #[.int .i64 0, .int .i64 0] 27))) := (Below.refl _ _).alloc (Nat.le_refl _) _
  go_enter Tryd.func133, Tryd.ntmps133
  go_wp2_with fail
  refine (implSeen_nil l HN.out x _ (errB HB0.out h0 he) (posB HB0.out h0)).mono ?_
  rintro e w1 ⟨(⟨_, G, hG, rfl, hI, _⟩ | ⟨hf, _⟩), hb1⟩
  rotate_left
  · rw [HO.out] at hf; cases hf
  have HB1 := hideIt (Bstep HB0.out hb1)
  have rc0 : w1.cell? ⟨w.heap.size, 0, none⟩ = some (.int .i64 0) := ((bcell hb1).1 _ _ (by simp)).trans (by simp [go_sem])
  have rc1 : w1.cell? ⟨w.heap.size, 1, none⟩ = some (.int .i64 0) := ((bcell hb1).1 _ _ (by simp)).trans (by simp [go_sem])
  have hwl : w.heap.size < w1.heap.size := by have := hb1.size; simp at this; omega
  have hfz : ∀ j, w1.frozen? ⟨w.heap.size, j, none⟩ = false := fun j => ((bcell hb1).2 _ _ (by simp)).trans (by simp [go_sem])
  have herr : w1.cell? ⟨0, 0, none⟩ = some (.iface 203 (.pointer (some x))) := errB HB1.out h0 he
  have hne0 : ¬ 0 = w.heap.size := by omega
  have hne1 : ¬ w.heap.size = 0 := by omega
  obtain ⟨c0, c1, c2⟩ := ints3 hI
  clear hb1 hI
  cases hi : inB r 1 3
  · have hr : r < 1 ∨ 3 < r := by simp [inB] at hi; omega
    have HM : Hid (mayMore l r = false) := by show mayMore l r = false; rw [HMM.out, hi]; rfl
    clear hi HMM
    rcases hr with hr | hr
    · go_wp2
      go_region_held3 (fun w' => w'.cell? ⟨0, 0, none⟩ = some (.iface 203 (.pointer (some x)))) (first | exact herr | (simp [go_sem, herr, hne0, hne1])) (fail)
      go_wp2
      exact bodyPost_ret (v := .tuple #[.agg #[.int .i64 0, .int .i64 0], .iface 203 (.pointer (some x))]) (by simp [results, Tryd.results133, go_sem, rc0, rc1]) rfl ⟨.inl ⟨HM.out, rfl⟩, ((HB1.out.setCell (p := ⟨w.heap.size, 0, none⟩) (Nat.le_refl _) _).setCell (p := ⟨w.heap.size, 1, none⟩) (Nat.le_refl _) _).drew⟩
    · have hr1 : ¬ r < 1 := by omega
      go_wp2
      go_region_held3 (fun w' => w'.cell? ⟨0, 0, none⟩ = some (.iface 203 (.pointer (some x)))) (first | exact herr | (simp [go_sem, herr, hne0, hne1])) (fail)
      go_wp2
      exact bodyPost_ret (v := .tuple #[.agg #[.int .i64 0, .int .i64 0], .iface 203 (.pointer (some x))]) (by simp [results, Tryd.results133, go_sem, rc0, rc1]) rfl ⟨.inl ⟨HM.out, rfl⟩, ((HB1.out.setCell (p := ⟨w.heap.size, 0, none⟩) (Nat.le_refl _) _).setCell (p := ⟨w.heap.size, 1, none⟩) (Nat.le_refl _) _).drew⟩
  · have h3 := in3 hi
    have HME : Hid (mayMore l r = idB r (cnt l r + 1)) := by
      show mayMore l r = idB r (cnt l r + 1)
      rw [HMM.out, hi]
      have := cntTo_le l l.length r
      rw [cntTo_len] at this
      unfold idB
      simp only [Bool.true_and]
      apply decide_eq_decide.2
      simp [inB] at hi
      omega
    have hcb : 0 ≤ cnt l r ∧ cnt l r ≤ 36 := by
      have := cntTo_le l l.length r
      rw [cntTo_len] at this
      have := ops_36 HO.out
      omega
    clear hi HMM
    have hwi : IntKind.i64.wrap (cnt l r + 1) = cnt l r + 1 := IntWalk.i64_in _ ⟨by omega, by omega⟩
    rcases h3 with rfl | rfl | rfl
    all_goals
      go_wp2_with fail
      refine (idOk_any _ _ _).mono ?_
      rintro e w2 ⟨rfl, hb2⟩
      rw [← HME.out]
      have HB2 : Hid (Below w.heap.size w w2) := Bstep (HB1.out.alloc HB1.out.size _) hb2
      have herr2 : w2.cell? ⟨0, 0, none⟩ = some (.iface 203 (.pointer (some x))) := errB HB2.out h0 he
      have s0 : w2.cell? ⟨w.heap.size, 0, none⟩ = some (.int .i64 0) := ((bcell hb2).1 w.heap.size 0 (by simp; omega)).trans ((World.cell?_alloc_lt _ _ _ hwl).trans rc0)
      have s1 : w2.cell? ⟨w.heap.size, 1, none⟩ = some (.int .i64 0) := ((bcell hb2).1 w.heap.size 1 (by simp; omega)).trans ((World.cell?_alloc_lt _ _ _ hwl).trans rc1)
      have sf : ∀ j, w2.frozen? ⟨w.heap.size, j, none⟩ = false := fun j => ((bcell hb2).2 w.heap.size j (by simp; omega)).trans ((World.frozen?_alloc_past _ _ _ hwl).trans (hfz j))
      have i0 := (bcell hb2).1 w1.heap.size 0 (by simp)
      have i1 := (bcell hb2).1 w1.heap.size 1 (by simp)
      simp [go_sem] at i0 i1
      have hiw : ¬ w1.heap.size = w.heap.size := by omega
      have hwi2 : ¬ w.heap.size = w1.heap.size := by omega
      clear hb2 herr rc0 rc1 hfz c0 c1 c2
      generalize w1.heap.size = I at *
      cases hm : mayMore l _
      · have HM := hideIt hm
        clear hm HME
        go_wp2
        go_region_held3 (fun w' => w'.cell? ⟨0, 0, none⟩ = some (.iface 203 (.pointer (some x)))) (first | exact herr2 | (simp [go_sem, herr2, hne0, hne1])) (fail)
        go_wp2
        exact bodyPost_ret (v := .tuple #[.agg #[.int .i64 0, .int .i64 0], .iface 203 (.pointer (some x))]) (by simp [results, Tryd.results133, go_sem, s0, s1]) rfl ⟨.inl ⟨HM.out, rfl⟩, ((HB2.out.setCell (p := ⟨w.heap.size, 0, none⟩) (Nat.le_refl _) _).setCell (p := ⟨w.heap.size, 1, none⟩) (Nat.le_refl _) _).drew⟩
      · have HM := hideIt hm
        clear hm HME
        go_wp2
        first
          | exact bodyPost_ret (v := .tuple #[.agg #[.int .i64 1, .int .i64 (cnt l 1 + 1)], .nilIface]) (by simp [results, Tryd.results133, go_sem, s0, s1, i0, i1]) rfl ⟨.inr ⟨HM.out, rfl⟩, (HB2.out.setCell (p := ⟨w.heap.size, 0, none⟩) (Nat.le_refl _) _).setCell (p := ⟨w.heap.size, 1, none⟩) (Nat.le_refl _) _⟩
          | exact bodyPost_ret (v := .tuple #[.agg #[.int .i64 2, .int .i64 (cnt l 2 + 1)], .nilIface]) (by simp [results, Tryd.results133, go_sem, s0, s1, i0, i1]) rfl ⟨.inr ⟨HM.out, rfl⟩, (HB2.out.setCell (p := ⟨w.heap.size, 0, none⟩) (Nat.le_refl _) _).setCell (p := ⟨w.heap.size, 1, none⟩) (Nat.le_refl _) _⟩
          | exact bodyPost_ret (v := .tuple #[.agg #[.int .i64 3, .int .i64 (cnt l 3 + 1)], .nilIface]) (by simp [results, Tryd.results133, go_sem, s0, s1, i0, i1]) rfl ⟨.inr ⟨HM.out, rfl⟩, (HB2.out.setCell (p := ⟨w.heap.size, 0, none⟩) (Nat.le_refl _) _).setCell (p := ⟨w.heap.size, 1, none⟩) (Nat.le_refl _) _⟩

set_option maxRecDepth 100000 in
set_option maxHeartbeats 2000000 in
theorem treeNext_nil (l : List Op7) (hL0 : l = []) (r : Int) (x : Addr) (w : World)
    (he : w.cell? ⟨0, 0, none⟩ = some (.iface 203 (.pointer (some x)))) (h0 : 0 < w.heap.size) :
    Calls Tryd.prog 109 #[.slice none 0 0, .int .i64 r] w fun e w' =>
      ((mayMore l r = false ∧ e = .returned (.tuple #[.agg #[.map none, .map none, .map none], .agg #[.int .i64 0, .int .i64 0], .iface 203 (.pointer (some x))])) ∨
       (mayMore l r = true ∧ ∃ b1 b2 b3 base, e = .returned (.tuple #[.agg #[.map (some b1), .map (some b2), .map (some b3)], .agg #[.int .i64 r, .int .i64 (cnt l r + 1)], .nilIface]) ∧ TreeAt w' b1 b2 b3 base l)) ∧ Below w.heap.size w w' := by
  have HN := hideIt hL0
  have hn : l.length ≤ 1048576 := by rw [hL0]; simp
  clear hL0
  have HT0 : Hid (TN w ((w.alloc (.cells #[.map none, .map none, .map none] 107)).alloc (.cells #[.int .i64 0, .int .i64 0] 27)) ∧ ((w.alloc (.cells #[.map none, .map none, .map none] 107)).alloc (.cells #[.int .i64 0, .int .i64 0] 27)).heap.size = w.heap.size + 1 + 1) := by
    refine ⟨⟨(Below.heap_alloc _ _ _ (by simp)).trans (World.alloc_heap_new _ _), ?_, ((Below.refl _ _).alloc (Nat.le_refl _) _).alloc (by simp) _⟩, by simp⟩
    have h := World.alloc_heap_new (w.alloc (.cells #[.map none, .map none, .map none] 107)) (.cells #[.int .i64 0, .int .i64 0] 27)
    rw [World.size_alloc] at h
    exact h
  go_enter Tryd.func109, Tryd.ntmps109
  go_wp2_with fail
  generalize (w.alloc (.cells #[.map none, .map none, .map none] 107)).alloc (.cells #[.int .i64 0, .int .i64 0] 27) = W0 at *
  refine (treeOf_lowN l HN.out x _ (errB HT0.out.1.bel h0 he) (posB HT0.out.1.bel h0)).mono ?_
  rintro e w1 ⟨(⟨ht, b1, b2, b3, base, rfl, hT, hl1, hl2, hl3, hl4⟩ | ⟨ht, rfl⟩), hb1⟩
  all_goals
    have HO := hideIt ht
    have HT1 := hideIt (HT0.out.1.below hb1)
    have hlt := HT1.out.lt
    have hlt0 : w.heap.size < w1.heap.size := by omega
    have t0 := (blk_cell HT1.out.tb 0).trans rfl
    have t1 := (blk_cell HT1.out.tb 1).trans rfl
    have t2 := (blk_cell HT1.out.tb 2).trans rfl
    have i0 := (blk_cell HT1.out.ib 0).trans rfl
    have i1 := (blk_cell HT1.out.ib 1).trans rfl
    have tf : ∀ j, w1.frozen? ⟨w.heap.size, j, none⟩ = false := fun j => by simp [World.frozen?, HT1.out.tb]
    have jf : ∀ j, w1.frozen? ⟨w.heap.size + 1, j, none⟩ = false := fun j => by simp [World.frozen?, HT1.out.ib]
    clear ht hb1
  · have HTT := hideIt hT
    have HLO : Hid (w.heap.size + 1 < b1 ∧ w.heap.size + 1 < b2 ∧ w.heap.size + 1 < b3 ∧ w.heap.size + 1 < base) := by have := HT0.out.2; refine ⟨?_, ?_, ?_, ?_⟩ <;> omega
    clear hT hl1 hl2 hl3 hl4 HT0
    go_wp2_with fail
    have HBt : Hid (Below w1.heap.size w1 (w1.alloc (.cells #[.map (some b1), .map (some b2), .map (some b3)] 107))) := (Below.refl _ _).alloc (Nat.le_refl _) _
    have HKt : Hid ((w1.alloc (.cells #[.map (some b1), .map (some b2), .map (some b3)] 107)).heap[w1.heap.size]? = some (.cells #[.map (some b1), .map (some b2), .map (some b3)] 107 (0, 0))) := World.alloc_heap_new _ _
    have HB2 := hideIt (Bstep HT1.out.bel HBt.out)
    refine (implNext_nil l HN.out HO.out r x _ (errB HB2.out h0 he) (posB HB2.out h0)).mono ?_
    rintro e w3 ⟨(⟨hm, rfl⟩ | ⟨hm, rfl⟩), hb3⟩
    all_goals
      have HM := hideIt hm
      have hb13 := Bstep HBt.out hb3
      have HT3 := hideIt (HT1.out.below hb13)
      have HTR := hideIt (HTT.out.below hb13)
      have hk3 := blk_below HKt.out hb3
      have hlt3 := HT3.out.lt
      have hlt4 : w.heap.size < w3.heap.size := by omega
      have hltk : w1.heap.size < w3.heap.size := (Array.getElem?_eq_some_iff.1 hk3).1
      have u0 := (blk_cell hk3 0).trans rfl
      have u1 := (blk_cell hk3 1).trans rfl
      have u2 := (blk_cell hk3 2).trans rfl
      have a0 := (blk_cell HT3.out.tb 0).trans rfl
      have a1 := (blk_cell HT3.out.tb 1).trans rfl
      have a2 := (blk_cell HT3.out.tb 2).trans rfl
      have c0 := (blk_cell HT3.out.ib 0).trans rfl
      have c1 := (blk_cell HT3.out.ib 1).trans rfl
      have af : ∀ j, w3.frozen? ⟨w.heap.size, j, none⟩ = false := fun j => by simp [World.frozen?, HT3.out.tb]
      have cf : ∀ j, w3.frozen? ⟨w.heap.size + 1, j, none⟩ = false := fun j => by simp [World.frozen?, HT3.out.ib]
      have nk0 : ¬ w1.heap.size = w.heap.size := by omega
      have nk1 : ¬ w1.heap.size = w.heap.size + 1 := by omega
      clear t0 t1 t2 i0 i1 tf jf hm hb3 hb13 hk3 HTT HT1 HBt HKt HB2
    · go_wp2
      obtain ⟨z1, z2, z3⟩ := HT3.out.set (.map none) (.map none) (.map none) 0 0
      generalize (((((w3.setCell ⟨w.heap.size, 0, none⟩ (.map none)).setCell ⟨w.heap.size, 1, none⟩ (.map none)).setCell ⟨w.heap.size, 2, none⟩ (.map none)).setCell ⟨w.heap.size + 1, 0, none⟩ (.int .i64 0)).setCell ⟨w.heap.size + 1, 1, none⟩ (.int .i64 0)) = WZ at *
      have HBZ := (Below.refl WZ.heap.size WZ).alloc (Nat.le_refl _) (.cells #[.int .i64 0, .int .i64 0] 27)
      have y1 := blk_below z1 HBZ
      have y2 := blk_below z2 HBZ
      have v0 := (blk_cell y1 0).trans rfl
      have v1 := (blk_cell y1 1).trans rfl
      have v2 := (blk_cell y1 2).trans rfl
      have v3 := (blk_cell y2 0).trans rfl
      have v4 := (blk_cell y2 1).trans rfl
      exact bodyPost_ret (v := .tuple #[.agg #[.map none, .map none, .map none], .agg #[.int .i64 0, .int .i64 0], .iface 203 (.pointer (some x))]) (by simp [results, Tryd.results109, go_sem, v0, v1, v2, v3, v4]) rfl ⟨.inl ⟨HM.out, rfl⟩, Bstep z3 HBZ⟩
    · generalize hcn : cnt l r + 1 = cn at *
      have HCN := hideIt hcn
      clear hcn
      go_wp2
      obtain ⟨Wm, hWm⟩ : ∃ Wm, w3.alloc (.cells #[.int .i64 r, .int .i64 cn] 27) = Wm := ⟨_, rfl⟩
      have hbm : Below w3.heap.size w3 Wm := by rw [← hWm]; exact (Below.refl _ _).alloc (Nat.le_refl _) _
      have hmk : Wm.heap[w3.heap.size]? = some (.cells #[.int .i64 r, .int .i64 cn] 27 (0, 0)) := by rw [← hWm]; exact World.alloc_heap_new _ _
      have HTM := hideIt (HT3.out.below hbm)
      have HTW := hideIt (HTR.out.below hbm)
      have u0' := ((bcell hbm).1 w1.heap.size 0 hltk).trans u0
      have u1' := ((bcell hbm).1 w1.heap.size 1 hltk).trans u1
      have u2' := ((bcell hbm).1 w1.heap.size 2 hltk).trans u2
      rw [hWm]
      clear hWm hbm u0 u1 u2 a0 a1 a2 c0 c1 af cf HTR HT3
      have a0 := (blk_cell HTM.out.tb 0).trans rfl
      have a1 := (blk_cell HTM.out.tb 1).trans rfl
      have a2 := (blk_cell HTM.out.tb 2).trans rfl
      have c0 := (blk_cell HTM.out.ib 0).trans rfl
      have c1 := (blk_cell HTM.out.ib 1).trans rfl
      have m0 := (blk_cell hmk 0).trans rfl
      have m1 := (blk_cell hmk 1).trans rfl
      have af : ∀ j, Wm.frozen? ⟨w.heap.size, j, none⟩ = false := fun j => by simp [World.frozen?, HTM.out.tb]
      have cf : ∀ j, Wm.frozen? ⟨w.heap.size + 1, j, none⟩ = false := fun j => by simp [World.frozen?, HTM.out.ib]
      clear hmk
      generalize w3.heap.size = Bi at *
      generalize w1.heap.size = Bt at *
      have nb0 : ¬ Bi = w.heap.size := by omega
      have nb1 : ¬ Bi = w.heap.size + 1 := by omega
      have K1 : Hid (T5 b1 b2 b3 r cn Bt Bi Wm) := ⟨u0', u1', u2', m0, m1⟩
      have K2 : Hid ((((Wm.setCell ⟨w.heap.size, 0, none⟩ (.map (some b1))).setCell ⟨w.heap.size, 1, none⟩ (.map (some b2))).setCell ⟨w.heap.size, 2, none⟩ (.map (some b3))).drew.cell? ⟨Bt, 0, none⟩ = some (.map (some b1)) ∧ (((Wm.setCell ⟨w.heap.size, 0, none⟩ (.map (some b1))).setCell ⟨w.heap.size, 1, none⟩ (.map (some b2))).setCell ⟨w.heap.size, 2, none⟩ (.map (some b3))).drew.cell? ⟨Bt, 1, none⟩ = some (.map (some b2)) ∧ (((Wm.setCell ⟨w.heap.size, 0, none⟩ (.map (some b1))).setCell ⟨w.heap.size, 1, none⟩ (.map (some b2))).setCell ⟨w.heap.size, 2, none⟩ (.map (some b3))).drew.cell? ⟨Bt, 2, none⟩ = some (.map (some b3)) ∧ (((Wm.setCell ⟨w.heap.size, 0, none⟩ (.map (some b1))).setCell ⟨w.heap.size, 1, none⟩ (.map (some b2))).setCell ⟨w.heap.size, 2, none⟩ (.map (some b3))).drew.cell? ⟨Bi, 0, none⟩ = some (.int .i64 r) ∧ (((Wm.setCell ⟨w.heap.size, 0, none⟩ (.map (some b1))).setCell ⟨w.heap.size, 1, none⟩ (.map (some b2))).setCell ⟨w.heap.size, 2, none⟩ (.map (some b3))).drew.cell? ⟨Bi, 1, none⟩ = some (.int .i64 cn)) := T5.three K1.out nk0 nb0 _ _ _
      have K3 : Hid ((((((Wm.setCell ⟨w.heap.size, 0, none⟩ (.map (some b1))).setCell ⟨w.heap.size, 1, none⟩ (.map (some b2))).setCell ⟨w.heap.size, 2, none⟩ (.map (some b3))).setCell ⟨w.heap.size + 1, 0, none⟩ (.int .i64 r)).setCell ⟨w.heap.size + 1, 1, none⟩ (.int .i64 cn)).drew.cell? ⟨Bt, 0, none⟩ = some (.map (some b1)) ∧ (((((Wm.setCell ⟨w.heap.size, 0, none⟩ (.map (some b1))).setCell ⟨w.heap.size, 1, none⟩ (.map (some b2))).setCell ⟨w.heap.size, 2, none⟩ (.map (some b3))).setCell ⟨w.heap.size + 1, 0, none⟩ (.int .i64 r)).setCell ⟨w.heap.size + 1, 1, none⟩ (.int .i64 cn)).drew.cell? ⟨Bt, 1, none⟩ = some (.map (some b2)) ∧ (((((Wm.setCell ⟨w.heap.size, 0, none⟩ (.map (some b1))).setCell ⟨w.heap.size, 1, none⟩ (.map (some b2))).setCell ⟨w.heap.size, 2, none⟩ (.map (some b3))).setCell ⟨w.heap.size + 1, 0, none⟩ (.int .i64 r)).setCell ⟨w.heap.size + 1, 1, none⟩ (.int .i64 cn)).drew.cell? ⟨Bt, 2, none⟩ = some (.map (some b3)) ∧ (((((Wm.setCell ⟨w.heap.size, 0, none⟩ (.map (some b1))).setCell ⟨w.heap.size, 1, none⟩ (.map (some b2))).setCell ⟨w.heap.size, 2, none⟩ (.map (some b3))).setCell ⟨w.heap.size + 1, 0, none⟩ (.int .i64 r)).setCell ⟨w.heap.size + 1, 1, none⟩ (.int .i64 cn)).drew.cell? ⟨Bi, 0, none⟩ = some (.int .i64 r) ∧ (((((Wm.setCell ⟨w.heap.size, 0, none⟩ (.map (some b1))).setCell ⟨w.heap.size, 1, none⟩ (.map (some b2))).setCell ⟨w.heap.size, 2, none⟩ (.map (some b3))).setCell ⟨w.heap.size + 1, 0, none⟩ (.int .i64 r)).setCell ⟨w.heap.size + 1, 1, none⟩ (.int .i64 cn)).drew.cell? ⟨Bi, 1, none⟩ = some (.int .i64 cn)) := T5.five K1.out nk0 nb0 nk1 nb1 _ _ _ _ _
      have K1' : Hid (Wm.drew.cell? ⟨Bt, 0, none⟩ = some (.map (some b1)) ∧ Wm.drew.cell? ⟨Bt, 1, none⟩ = some (.map (some b2)) ∧ Wm.drew.cell? ⟨Bt, 2, none⟩ = some (.map (some b3)) ∧ Wm.drew.cell? ⟨Bi, 0, none⟩ = some (.int .i64 r) ∧ Wm.drew.cell? ⟨Bi, 1, none⟩ = some (.int .i64 cn)) := K1.out
      go_region_held3 (fun w' => w'.cell? ⟨Bt, 0, none⟩ = some (.map (some b1)) ∧ w'.cell? ⟨Bt, 1, none⟩ = some (.map (some b2)) ∧ w'.cell? ⟨Bt, 2, none⟩ = some (.map (some b3)) ∧ w'.cell? ⟨Bi, 0, none⟩ = some (.int .i64 r) ∧ w'.cell? ⟨Bi, 1, none⟩ = some (.int .i64 cn))
        (first | with_reducible exact K1'.out | with_reducible exact K2.out | with_reducible exact K3.out)
        (fail)
      go_wp2
      rename_i hHH
      clear hHH K2 K3 K1' K1
      obtain ⟨z1, z2, z3⟩ := HTM.out.set (.map (some b1)) (.map (some b2)) (.map (some b3)) r cn
      have hTZ := TN.tree HTW.out HLO.out.1 HLO.out.2.1 HLO.out.2.2.1 HLO.out.2.2.2 (.map (some b1)) (.map (some b2)) (.map (some b3)) (.int .i64 r) (.int .i64 cn)
      generalize (((((Wm.setCell ⟨w.heap.size, 0, none⟩ (.map (some b1))).setCell ⟨w.heap.size, 1, none⟩ (.map (some b2))).setCell ⟨w.heap.size, 2, none⟩ (.map (some b3))).setCell ⟨w.heap.size + 1, 0, none⟩ (.int .i64 r)).setCell ⟨w.heap.size + 1, 1, none⟩ (.int .i64 cn)) = WZ at *
      have v0 := (blk_cell z1 0).trans rfl
      have v1 := (blk_cell z1 1).trans rfl
      have v2 := (blk_cell z1 2).trans rfl
      have v3 := (blk_cell z2 0).trans rfl
      have v4 := (blk_cell z2 1).trans rfl
      exact bodyPost_ret (v := .tuple #[.agg #[.map (some b1), .map (some b2), .map (some b3)], .agg #[.int .i64 r, .int .i64 cn], .nilIface]) (by simp [results, Tryd.results109, go_sem, v0, v1, v2, v3, v4]) rfl ⟨.inr ⟨HM.out, b1, b2, b3, base, by rw [HCN.out], treeAt_drew hTZ⟩, z3.drew⟩
  · have HM : Hid (mayMore l r = false) := by show mayMore l r = false; unfold mayMore; rw [HO.out]; rfl
    go_wp2
    obtain ⟨z1, z2, z3⟩ := HT1.out.set (.map none) (.map none) (.map none) 0 0
    have HBZ := (Below.refl (((((w1.setCell ⟨w.heap.size, 0, none⟩ (.map none)).setCell ⟨w.heap.size, 1, none⟩ (.map none)).setCell ⟨w.heap.size, 2, none⟩ (.map none)).setCell ⟨w.heap.size + 1, 0, none⟩ (.int .i64 0)).setCell ⟨w.heap.size + 1, 1, none⟩ (.int .i64 0)).heap.size (((((w1.setCell ⟨w.heap.size, 0, none⟩ (.map none)).setCell ⟨w.heap.size, 1, none⟩ (.map none)).setCell ⟨w.heap.size, 2, none⟩ (.map none)).setCell ⟨w.heap.size + 1, 0, none⟩ (.int .i64 0)).setCell ⟨w.heap.size + 1, 1, none⟩ (.int .i64 0))).alloc (Nat.le_refl _) (.cells #[.map none, .map none, .map none] 107)
    have y1 := blk_below z1 HBZ
    have y2 := blk_below z2 HBZ
    have v0 := (blk_cell y1 0).trans rfl
    have v1 := (blk_cell y1 1).trans rfl
    have v2 := (blk_cell y1 2).trans rfl
    have v3 := (blk_cell y2 0).trans rfl
    have v4 := (blk_cell y2 1).trans rfl
    exact bodyPost_ret (v := .tuple #[.agg #[.map none, .map none, .map none], .agg #[.int .i64 0, .int .i64 0], .iface 203 (.pointer (some x))]) (by simp [results, Tryd.results109, go_sem, v0, v1, v2, v3, v4]) rfl ⟨.inl ⟨HM.out, rfl⟩, Bstep z3 HBZ⟩
end Go.Proofs.YtedanlmippfojaaDoor

namespace Go.Proofs.YtedanlmippfojaaDoor
open Go.RowKit Go.Shelf
set_option linter.unusedSimpArgs false
set_option linter.unusedVariables false
attribute [local go_sem ↓] Go.wp_at_zero Go.wp_at_succ

theorem wf64_iff {n : Int} : wf64 n ↔ -9223372036854775808 ≤ n ∧ n ≤ 9223372036854775807 := by
  constructor
  · intro h
    simp [wf64, Lit.wf, IntKind.min, IntKind.max, IntKind.signed, IntKind.bits] at h
    omega
  · exact wf_small
/-- A box that is to be answered, still nothing, in memory that has grown. -/
structure IB (w W : World) : Prop where
  box : W.heap[w.heap.size]? = some (.cells #[.int .i64 0, .int .i64 0] 27 (0, 0))
  bel : Below w.heap.size w W
theorem IB.start (w : World) : IB w (w.alloc (.cells #[.int .i64 0, .int .i64 0] 27)) := ⟨World.alloc_heap_new _ _, (Below.refl _ _).alloc (Nat.le_refl _) _⟩
theorem IB.below {w W W' : World} (h : IB w W) (hb : Below W.heap.size W W') : IB w W' := ⟨blk_below h.box hb, Bstep h.bel hb⟩
theorem IB.lt {w W : World} (h : IB w W) : w.heap.size < W.heap.size := (Array.getElem?_eq_some_iff.1 h.box).1
theorem IB.frozen {w W : World} (h : IB w W) (j : Nat) : W.frozen? ⟨w.heap.size, j, none⟩ = false := by simp [World.frozen?, h.box]

set_option maxRecDepth 100000 in
set_option maxHeartbeats 2000000 in
theorem signAhead_any (l : List Op7) (hops : opsB l = true) (hn : l.length ≤ 1048576) (w0 : World) (b1 b2 b3 base : Nat) (hT : TreeAt w0 b1 b2 b3 base l) (t : Int) (ht : wf64 t) (x : Addr) (w : World) (hW : Below w0.heap.size w0 w)
    (he : w.cell? ⟨0, 0, none⟩ = some (.iface 203 (.pointer (some x)))) (h0 : 0 < w.heap.size) :
    Calls Tryd.prog 85 #[.agg #[.map (some b1), .map (some b2), .map (some b3)], .int .i64 t] w fun e w' =>
      ((inB t 0 (shownI (lvs l)).length = true ∧ e = .returned (.tuple #[.agg #[.int .i64 (leftOf l t.toNat).1, .int .i64 (leftOf l t.toNat).2.1], .nilIface])) ∨ (inB t 0 (shownI (lvs l)).length = false ∧ e = .returned (.tuple #[.agg #[.int .i64 0, .int .i64 0], .iface 203 (.pointer (some x))]))) ∧ Below w.heap.size w w' := by
  have HW := hideIt hW
  have HTT := hideIt hT
  have HO := hideIt hops
  clear hW hT hops
  go_enter Tryd.func85, Tryd.ntmps85
  have A2 : Hid (∃ W2, ((w.alloc (.cells #[.map (some b1), .map (some b2), .map (some b3)] 107)).alloc (.cells #[.int .i64 0, .int .i64 0] 27)) = W2 ∧ W2.heap[w.heap.size + 1]? = some (.cells #[.int .i64 0, .int .i64 0] 27 (0, 0)) ∧ Below w.heap.size w W2) := by
    refine ⟨_, rfl, ?_, ((Below.refl _ _).alloc (Nat.le_refl _) _).alloc (by simp) _⟩
    have h := World.alloc_heap_new (w.alloc (.cells #[.map (some b1), .map (some b2), .map (some b3)] 107)) (.cells #[.int .i64 0, .int .i64 0] 27)
    rw [World.size_alloc] at h
    exact h
  by_cases hneg : t < 0
  · go_wp2
    obtain ⟨W2, hW2, hbx, hb2⟩ := A2.out
    rw [hW2]
    have herr := errB hb2 h0 he
    have i0 := (blk_cell hbx 0).trans rfl
    have i1 := (blk_cell hbx 1).trans rfl
    have fi : ∀ j, W2.frozen? ⟨w.heap.size + 1, j, none⟩ = false := fun j => by simp [World.frozen?, hbx]
    have HB := hideIt hb2
    clear hW2 A2 hbx hb2
    generalize hS1 : w.heap.size + 1 = S1 at *
    have n0 : ¬ 0 = S1 := by omega
    have n1 : ¬ S1 = 0 := by omega
    go_region_held3 (fun w' => w'.cell? ⟨0, 0, none⟩ = some (.iface 203 (.pointer (some x)))) (first | exact herr | (simp [go_sem, herr, n0, n1])) (fail)
    go_wp2
    exact bodyPost_ret (v := .tuple #[.agg #[.int .i64 0, .int .i64 0], .iface 203 (.pointer (some x))]) (by simp [results, Tryd.results85, go_sem, i0, i1]) rfl ⟨.inr ⟨by simp [inB]; omega, rfl⟩, ((HB.out.setCell (p := ⟨S1, 0, none⟩) (by show w.heap.size ≤ S1; omega) _).setCell (p := ⟨S1, 1, none⟩) (by show w.heap.size ≤ S1; omega) _).drew⟩
  · by_cases hz : t = 0
    · subst hz
      go_wp2
      obtain ⟨W2, hW2, hbx, hb2⟩ := A2.out
      rw [hW2]
      have i0 := (blk_cell hbx 0).trans rfl
      have i1 := (blk_cell hbx 1).trans rfl
      exact bodyPost_ret (v := .tuple #[.agg #[.int .i64 0, .int .i64 0], .nilIface]) (by simp [results, Tryd.results85, go_sem, i0, i1]) rfl ⟨.inl ⟨by simp [inB], rfl⟩, hb2⟩
    · have hwi : IntKind.i64.wrap (t - 1) = t - 1 := by
        obtain ⟨h1, h2⟩ := wf64_iff.1 ht
        exact IntWalk.i64_in (t - 1) ⟨by omega, by omega⟩
      go_wp2_with fail
      obtain ⟨W2, hW2, hbx, hb2⟩ := A2.out
      rw [hW2]
      have HBX := hideIt hbx
      have HB2 := hideIt hb2
      clear hW2 A2 hbx hb2
      refine (callsIn_wide.1 (signAt_in l HO.out hn w0 b1 b2 b3 base HTT.out 3 (Nat.le_refl _) (t - 1) x _ (HW.out.trans (HB2.out.mono HW.out.size)) (errB HB2.out h0 he) (posB HB2.out h0))).mono ?_
      rintro e w3 ⟨(⟨k, j, y, hk, hj, hy, rfl⟩ | ⟨hno, rfl⟩), hb3⟩
      all_goals
        have hbx3 := blk_below HBX.out hb3
        have HB3 := hideIt (Bstep HB2.out hb3)
        have i0 := (blk_cell hbx3 0).trans rfl
        have i1 := (blk_cell hbx3 1).trans rfl
        have fi : ∀ j, w3.frozen? ⟨w.heap.size + 1, j, none⟩ = false := fun j => by simp [World.frozen?, hbx3]
        clear hb3 hbx3 HBX HB2
        generalize hS1 : w.heap.size + 1 = S1 at *
      · have HTT' : Hid (inB t 0 (shownI (lvs l)).length = true ∧ leftOf l t.toNat = (y.a, y.b, j + 1)) := by
          have hlt := (List.getElem?_eq_some_iff.1 hj).1
          refine ⟨by simp [inB]; omega, ?_⟩
          rw [show t.toNat = k + 1 by omega]
          exact leftOf_succ hj hy
        clear hk hj hy hwi ht
        generalize y.a = ya at *
        generalize y.b = yb at *
        go_wp2
        exact bodyPost_ret (v := .tuple #[.agg #[.int .i64 ya, .int .i64 yb], .nilIface]) (by simp [results, Tryd.results85, go_sem, i0, i1]) rfl ⟨.inl ⟨HTT'.out.1, by rw [HTT'.out.2]⟩, (HB3.out.setCell (p := ⟨S1, 0, none⟩) (by show w.heap.size ≤ S1; omega) _).setCell (p := ⟨S1, 1, none⟩) (by show w.heap.size ≤ S1; omega) _⟩
      · have HNO : Hid (inB t 0 (shownI (lvs l)).length = false) := by
          have h := hno
          simp [inB] at h
          show inB t 0 (shownI (lvs l)).length = false
          simp [inB]
          omega
        clear hno hwi ht
        go_wp2
        exact bodyPost_ret (v := .tuple #[.agg #[.int .i64 0, .int .i64 0], .iface 203 (.pointer (some x))]) (by simp [results, Tryd.results85, go_sem, i0, i1]) rfl ⟨.inr ⟨HNO.out, rfl⟩, (HB3.out.setCell (p := ⟨S1, 0, none⟩) (by show w.heap.size ≤ S1; omega) _).setCell (p := ⟨S1, 1, none⟩) (by show w.heap.size ≤ S1; omega) _⟩
end Go.Proofs.YtedanlmippfojaaDoor
