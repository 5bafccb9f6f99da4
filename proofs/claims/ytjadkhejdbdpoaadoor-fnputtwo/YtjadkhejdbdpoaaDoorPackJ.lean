/- A box with a thing in it. -/
import Derived.Test.YtjadkhejdbdpoaaDoorPackG
import Derived.Test.YtjadkhejdbdpoaaDoorPackB
import Derived.Test.YtjadkhejdbdpoaaDoorPackH
import Derived.Test.YtjadkhejdbdpoaaDoorPackK
import Derived.Test.YtjadkhejdbdpoaaDoorPackA
import Derived.Test.YtjadkhejdbdpoaaDoorPackC
namespace Go.Proofs.YtjadkhejdbdpoaaDoor
open Go.RowKit Go.Shelf
set_option linter.unusedSimpArgs false
set_option linter.unusedVariables false
attribute [local go_sem ↓] Go.wp_at_zero Go.wp_at_succ

theorem wf64_iff {n : Int} : wf64 n ↔ -9223372036854775808 ≤ n ∧ n ≤ 9223372036854775807 := by
  constructor
  · intro h
    simp [wf64, Lit.wf, IntKind.min, IntKind.max, IntKind.signed, IntKind.bits] at h
    omega
  · exact wf_small
/-- A box that is to be answered, still nothing, in memory that has grown. -/
structure IB (w W : World) : Prop where
  box : W.heap[w.heap.size]? = some (.cells #[.int .i64 0, .int .i64 0] 27 (0, 0))
  bel : Below w.heap.size w W
theorem IB.start (w : World) : IB w (w.alloc (.cells #[.int .i64 0, .int .i64 0] 27)) := ⟨World.alloc_heap_new _ _, (Below.refl _ _).alloc (Nat.le_refl _) _⟩
theorem IB.below {w W W' : World} (h : IB w W) (hb : Below W.heap.size W W') : IB w W' := ⟨blk_below h.box hb, Bstep h.bel hb⟩
theorem IB.lt {w W : World} (h : IB w W) : w.heap.size < W.heap.size := (Array.getElem?_eq_some_iff.1 h.box).1
theorem IB.frozen {w W : World} (h : IB w W) (j : Nat) : W.frozen? ⟨w.heap.size, j, none⟩ = false := by simp [World.frozen?, h.box]

set_option maxRecDepth 100000 in
set_option maxHeartbeats 2000000 in
theorem signAhead_any (l : List Op7) (hops : opsB l = true) (hn : l.length ≤ 1048576) (w0 : World) (b1 b2 b3 base : Nat) (hT : TreeAt w0 b1 b2 b3 base l) (t : Int) (ht : wf64 t) (x : Addr) (w : World) (hW : Below w0.heap.size w0 w)
    (he : w.cell? ⟨0, 0, none⟩ = some (.iface 164 (.pointer (some x)))) (h0 : 0 < w.heap.size) :
    Calls Tryd.prog 63 #[.agg #[.map (some b1), .map (some b2), .map (some b3)], .int .i64 t] w fun e w' =>
      ((inB t 0 (shownI (lvs l)).length = true ∧ e = .returned (.tuple #[.agg #[.int .i64 (leftOf l t.toNat).1, .int .i64 (leftOf l t.toNat).2.1], .nilIface])) ∨ (inB t 0 (shownI (lvs l)).length = false ∧ e = .returned (.tuple #[.agg #[.int .i64 0, .int .i64 0], .iface 164 (.pointer (some x))]))) ∧ Below w.heap.size w w' := by
  have HW := hideIt hW
  have HTT := hideIt hT
  have HO := hideIt hops
  clear hW hT hops
  go_enter Tryd.func63, Tryd.ntmps63
  have A2 : Hid (∃ W2, ((w.alloc (.cells #[.map (some b1), .map (some b2), .map (some b3)] 81)).alloc (.cells #[.int .i64 0, .int .i64 0] 27)) = W2 ∧ W2.heap[w.heap.size + 1]? = some (.cells #[.int .i64 0, .int .i64 0] 27 (0, 0)) ∧ Below w.heap.size w W2) := by
    refine ⟨_, rfl, ?_, ((Below.refl _ _).alloc (Nat.le_refl _) _).alloc (by simp) _⟩
    have h := World.alloc_heap_new (w.alloc (.cells #[.map (some b1), .map (some b2), .map (some b3)] 81)) (.cells #[.int .i64 0, .int .i64 0] 27)
    rw [World.size_alloc] at h
    exact h
  by_cases hneg : t < 0
  · go_wp2
    obtain ⟨W2, hW2, hbx, hb2⟩ := A2.out
    rw [hW2]
    have herr := errB hb2 h0 he
    have i0 := (blk_cell hbx 0).trans rfl
    have i1 := (blk_cell hbx 1).trans rfl
    have fi : ∀ j, W2.frozen? ⟨w.heap.size + 1, j, none⟩ = false := fun j => by simp [World.frozen?, hbx]
    have HB := hideIt hb2
    clear hW2 A2 hbx hb2
    generalize hS1 : w.heap.size + 1 = S1 at *
    have n0 : ¬ 0 = S1 := by omega
    have n1 : ¬ S1 = 0 := by omega
    go_region_held3 (fun w' => w'.cell? ⟨0, 0, none⟩ = some (.iface 164 (.pointer (some x)))) (first | exact herr | (simp [go_sem, herr, n0, n1])) (fail)
    go_wp2
    exact bodyPost_ret (v := .tuple #[.agg #[.int .i64 0, .int .i64 0], .iface 164 (.pointer (some x))]) (by simp [results, Tryd.results63, go_sem, i0, i1]) rfl ⟨.inr ⟨by simp [inB]; omega, rfl⟩, ((HB.out.setCell (p := ⟨S1, 0, none⟩) (by show w.heap.size ≤ S1; omega) _).setCell (p := ⟨S1, 1, none⟩) (by show w.heap.size ≤ S1; omega) _).drew⟩
  · by_cases hz : t = 0
    · subst hz
      go_wp2
      obtain ⟨W2, hW2, hbx, hb2⟩ := A2.out
      rw [hW2]
      have i0 := (blk_cell hbx 0).trans rfl
      have i1 := (blk_cell hbx 1).trans rfl
      exact bodyPost_ret (v := .tuple #[.agg #[.int .i64 0, .int .i64 0], .nilIface]) (by simp [results, Tryd.results63, go_sem, i0, i1]) rfl ⟨.inl ⟨by simp [inB], rfl⟩, hb2⟩
    · have hwi : IntKind.i64.wrap (t - 1) = t - 1 := by
        obtain ⟨h1, h2⟩ := wf64_iff.1 ht
        exact IntWalk.i64_in (t - 1) ⟨by omega, by omega⟩
      go_wp2_with fail
      obtain ⟨W2, hW2, hbx, hb2⟩ := A2.out
      rw [hW2]
      have HBX := hideIt hbx
      have HB2 := hideIt hb2
      clear hW2 A2 hbx hb2
      refine (callsIn_wide.1 (signAt_in l HO.out hn w0 b1 b2 b3 base HTT.out 3 (Nat.le_refl _) (t - 1) x _ (HW.out.trans (HB2.out.mono HW.out.size)) (errB HB2.out h0 he) (posB HB2.out h0))).mono ?_
      rintro e w3 ⟨(⟨k, j, y, hk, hj, hy, rfl⟩ | ⟨hno, rfl⟩), hb3⟩
      all_goals
        have hbx3 := blk_below HBX.out hb3
        have HB3 := hideIt (Bstep HB2.out hb3)
        have i0 := (blk_cell hbx3 0).trans rfl
        have i1 := (blk_cell hbx3 1).trans rfl
        have fi : ∀ j, w3.frozen? ⟨w.heap.size + 1, j, none⟩ = false := fun j => by simp [World.frozen?, hbx3]
        clear hb3 hbx3 HBX HB2
        generalize hS1 : w.heap.size + 1 = S1 at *
      · have HTT' : Hid (inB t 0 (shownI (lvs l)).length = true ∧ leftOf l t.toNat = (y.a, y.b, j + 1)) := by
          have hlt := (List.getElem?_eq_some_iff.1 hj).1
          refine ⟨by simp [inB]; omega, ?_⟩
          rw [show t.toNat = k + 1 by omega]
          exact leftOf_succ hj hy
        clear hk hj hy hwi ht
        generalize y.a = ya at *
        generalize y.b = yb at *
        go_wp2
        exact bodyPost_ret (v := .tuple #[.agg #[.int .i64 ya, .int .i64 yb], .nilIface]) (by simp [results, Tryd.results63, go_sem, i0, i1]) rfl ⟨.inl ⟨HTT'.out.1, by rw [HTT'.out.2]⟩, (HB3.out.setCell (p := ⟨S1, 0, none⟩) (by show w.heap.size ≤ S1; omega) _).setCell (p := ⟨S1, 1, none⟩) (by show w.heap.size ≤ S1; omega) _⟩
      · have HNO : Hid (inB t 0 (shownI (lvs l)).length = false) := by
          have h := hno
          simp [inB] at h
          show inB t 0 (shownI (lvs l)).length = false
          simp [inB]
          omega
        clear hno hwi ht
        go_wp2
        exact bodyPost_ret (v := .tuple #[.agg #[.int .i64 0, .int .i64 0], .iface 164 (.pointer (some x))]) (by simp [results, Tryd.results63, go_sem, i0, i1]) rfl ⟨.inr ⟨HNO.out, rfl⟩, (HB3.out.setCell (p := ⟨S1, 0, none⟩) (by show w.heap.size ≤ S1; omega) _).setCell (p := ⟨S1, 1, none⟩) (by show w.heap.size ≤ S1; omega) _⟩
end Go.Proofs.YtjadkhejdbdpoaaDoor

namespace Go.Proofs.YtjadkhejdbdpoaaDoor
open Go.RowKit Go.Shelf
set_option linter.unusedSimpArgs false
set_option linter.unusedVariables false
attribute [local go_sem ↓] Go.wp_at_zero Go.wp_at_succ

/-- Where a letter is put so that it stands at a place. -/
def spotO (l : List Op7) (t : Nat) : Int × Int × Int := if kidsL l ((leftOf l t).1, (leftOf l t).2.1, 1) = [] then ((leftOf l t).1, (leftOf l t).2.1, 1) else ((nextLf l t).1, (nextLf l t).2, 0)
theorem spot_free {l : List Op7} {t : Nat} {a b : Int} {k : Nat} (h : leftOf l t = (a, b, k)) (hk : kidsL l (a, b, 1) = []) : spotO l t = (a, b, 1) := by unfold spotO; rw [h]; simp only; rw [if_pos hk]
theorem spot_next {l : List Op7} {t : Nat} {a b c d : Int} {k : Nat} (h : leftOf l t = (a, b, k)) (hk : kidsL l (a, b, 1) ≠ []) (hn : nextLf l t = (c, d)) : spotO l t = (c, d, 0) := by unfold spotO; rw [h]; simp only; rw [if_neg hk, hn]
/-- The box of a spot that is to be answered, still nothing. -/
structure SB (w W : World) : Prop where
  box : W.heap[w.heap.size + 1]? = some (.cells #[.int .i64 0, .int .i64 0, .int .i64 0] 98 (0, 0))
  tre : ∃ u, W.heap[w.heap.size]? = some (.cells u 81 (0, 0))
  bel : Below w.heap.size w W

theorem set3b {W : World} {b : Nat} {T : TypeId} {u v x u' v' x' : Value} (h : W.heap[b]? = some (.cells #[u, v, x] T (0, 0))) : (((W.setCell ⟨b, 0, none⟩ u').setCell ⟨b, 1, none⟩ v').setCell ⟨b, 2, none⟩ x').heap[b]? = some (.cells #[u', v', x'] T (0, 0)) := by
  simp only [World.setCell, Array.getElem?_modify, if_true, h, Option.map_some]
  rfl
/-- What stands ahead of a place is small. -/
theorem left_wf {l : List Op7} (h : opsB l = true) {t : Nat} (ht : t ≤ (shownI (lvs l)).length) : wf64 (leftOf l t).1 ∧ wf64 (leftOf l t).2.1 := by
  cases t with
  | zero => rw [leftOf_zero]; exact ⟨wf_small (n := 0) (by omega), wf_small (n := 0) (by omega)⟩
  | succ k =>
    obtain ⟨j, x, h1, h2, h3⟩ := shown_leaf (l := l) (k := k) (by omega)
    rw [leftOf_succ h1 h2]
    obtain ⟨p, hp, pa, pb⟩ := lvs_at h2
    have := okO_id (List.all_eq_true.1 (opsParts h).1 p (all_op h (List.mem_of_getElem? hp)))
    simp only
    rw [← pa, ← pb]
    exact ⟨wf_small (by omega), wf_small (by omega)⟩

set_option maxRecDepth 100000 in
set_option maxHeartbeats 2000000 in
theorem spotFor_any (l : List Op7) (hops : opsB l = true) (hn : l.length ≤ 1048576) (w0 : World) (b1 b2 b3 base : Nat) (hT : TreeAt w0 b1 b2 b3 base l) (t : Int) (hwf : wf64 t) (x : Addr) (w : World) (hW : Below w0.heap.size w0 w)
    (he : w.cell? ⟨0, 0, none⟩ = some (.iface 164 (.pointer (some x)))) (h0 : 0 < w.heap.size) :
    Calls Tryd.prog 79 #[.agg #[.map (some b1), .map (some b2), .map (some b3)], .int .i64 t] w fun e w' =>
      ((inB t 0 (shownI (lvs l)).length = true ∧ e = .returned (.tuple #[.agg #[.int .i64 (spotO l t.toNat).1, .int .i64 (spotO l t.toNat).2.1, .int .i64 (spotO l t.toNat).2.2], .nilIface])) ∨ (inB t 0 (shownI (lvs l)).length = false ∧ e = .returned (.tuple #[.agg #[.int .i64 0, .int .i64 0, .int .i64 0], .iface 164 (.pointer (some x))]))) ∧ Below w.heap.size w w' := by
  have HW := hideIt hW
  have HTT := hideIt hT
  have HO := hideIt hops
  clear hW hT hops
  have A2 : Hid (∃ W2, ((w.alloc (.cells #[.map (some b1), .map (some b2), .map (some b3)] 81)).alloc (.cells #[.int .i64 0, .int .i64 0, .int .i64 0] 98)) = W2 ∧ W2.heap[w.heap.size]? = some (.cells #[.map (some b1), .map (some b2), .map (some b3)] 81 (0, 0)) ∧ W2.heap[w.heap.size + 1]? = some (.cells #[.int .i64 0, .int .i64 0, .int .i64 0] 98 (0, 0)) ∧ Below w.heap.size w W2) := by
    refine ⟨_, rfl, (Below.heap_alloc _ _ _ (by simp)).trans (World.alloc_heap_new _ _), ?_, ((Below.refl _ _).alloc (Nat.le_refl _) _).alloc (by simp) _⟩
    have h := World.alloc_heap_new (w.alloc (.cells #[.map (some b1), .map (some b2), .map (some b3)] 81)) (.cells #[.int .i64 0, .int .i64 0, .int .i64 0] 98)
    rw [World.size_alloc] at h
    exact h
  go_enter Tryd.func79, Tryd.ntmps79
  go_wp2_with fail
  obtain ⟨W2, hW2, htr, hbx, hb2⟩ := A2.out
  rw [hW2]
  have HTR := hideIt htr
  have HBX := hideIt hbx
  have HB2 := hideIt hb2
  clear hW2 A2 hbx hb2 htr
  refine (signAhead_any l HO.out hn w0 b1 b2 b3 base HTT.out t hwf x _ (HW.out.trans (HB2.out.mono HW.out.size)) (errB HB2.out h0 he) (posB HB2.out h0)).mono ?_
  rintro e w3 ⟨(⟨hk, rfl⟩ | ⟨hk, rfl⟩), hb3⟩
  all_goals
    have HK := hideIt hk
    have hbx3 := blk_below HBX.out hb3
    have htr3 := blk_below HTR.out hb3
    have HB3 := hideIt (Bstep HB2.out hb3)
    have HBX3 := hideIt hbx3
    have i0 := (blk_cell hbx3 0).trans rfl
    have i1 := (blk_cell hbx3 1).trans rfl
    have i2 := (blk_cell hbx3 2).trans rfl
    have t0 := (blk_cell htr3 0).trans rfl
    have t1 := (blk_cell htr3 1).trans rfl
    have t2 := (blk_cell htr3 2).trans rfl
    have fi : ∀ j, w3.frozen? ⟨w.heap.size + 1, j, none⟩ = false := fun j => by simp [World.frozen?, hbx3]
    have hlt : w.heap.size + 1 < w3.heap.size := (Array.getElem?_eq_some_iff.1 hbx3).1
    have hlt0 : w.heap.size < w3.heap.size := by omega
    clear hb3 hbx3 htr3 HBX HB2 HTR hk
  · obtain ⟨la, lb, lk, hlf⟩ : ∃ la lb lk, leftOf l t.toNat = (la, lb, lk) := ⟨_, _, _, rfl⟩
    have hkt : 0 ≤ t ∧ t ≤ (shownI (lvs l)).length := by have h := HK.out; simp [inB] at h; exact h
    have hwab := left_wf HO.out (t := t.toNat) (by omega)
    have HBE : Hid (kidsL l (la, lb, 1) ≠ [] → ¬ noneBehind (lvs l) la lb) := fun h => by
      have := behind_is HO.out (t := t.toNat) (by omega)
      rw [hlf] at this
      exact this h
    have HNX : Hid (∀ p y q, p ++ y :: q = lvs l → lastId p = (la, lb) → nextLf l t.toNat = (y.a, y.b)) := fun p y q e e2 => nextLf_behind HO.out (by omega) e (by rw [hlf]; exact e2)
    have HSF : Hid (kidsL l (la, lb, 1) = [] → spotO l t.toNat = (la, lb, 1)) := fun h => spot_free hlf h
    have HSN : Hid (kidsL l (la, lb, 1) ≠ [] → ∀ c d, nextLf l t.toNat = (c, d) → spotO l t.toNat = (c, d, 0)) := fun h c d h2 => spot_next hlf h h2
    rw [hlf] at hwab ⊢
    obtain ⟨ks, hks⟩ := key_spot hwab.1 hwab.2 (s := 1) (wf_small (by omega))
    have HKS := hideIt hks
    clear hlf hkt hwab hks
    dsimp only
    have HTW := hideIt (HTT.out.below (HW.out.trans ((HB3.out.mono HW.out.size))))
    have HBa : Hid (Below w3.heap.size w3 ((w3.alloc (.cells #[.int .i64 la, .int .i64 lb] 27)).alloc (.cells #[.int .i64 la, .int .i64 lb, .int .i64 1] 98))) := ((Below.refl _ _).alloc (Nat.le_refl _) _).alloc (by simp) _
    obtain ⟨f, hf⟩ := (HTW.out.below HBa.out).2.1
    have HF := hideIt hf
    obtain ⟨v0, hv0⟩ : ∃ v0, (f (la, lb, 1)).getD (.slice none 0 0) = v0 := ⟨_, rfl⟩
    have hv0o := hf.at (la, lb, 1)
    rw [hv0] at hv0o
    have HV0 := hideIt hv0
    have HOW := hideIt hv0o
    clear hf hv0 hv0o HTW
    have hKl : (kidsL l (la, lb, 1)).length ≤ 1048576 := Nat.le_trans (kids_le l _) hn
    rcases row_cases HOW.out with ⟨hlen, p0, c0, hv⟩ | ⟨hlen, G, cap0, hv, hcap0, hGl, hcell⟩
    all_goals rw [hv] at HV0
    · have HSP := hideIt (HSF.out (List.length_eq_zero_iff.1 hlen))
      clear hv HOW HSF HSN HBE HNX hlen
      go_wp2_with (first
        | (at_lookup; refine wpList_look0 (t := 78) (e := 96) rfl _ _ rfl keyedSpot Tryd.underlying78 (.slice none 0 0) (zeroSlice _) encSpot_inj rfl HF.out.1 (la, lb, 1) rfl ks HKS.out _ HV0.out ?_))
      have hz := set3b (u' := .int .i64 la) (v' := .int .i64 lb) (x' := .int .i64 1) HBX3.out
      have hbz : Below w.heap.size w (((w3.setCell ⟨w.heap.size + 1, 0, none⟩ (.int .i64 la)).setCell ⟨w.heap.size + 1, 1, none⟩ (.int .i64 lb)).setCell ⟨w.heap.size + 1, 2, none⟩ (.int .i64 1)) := ((HB3.out.setCell (p := ⟨w.heap.size + 1, 0, none⟩) (by show w.heap.size ≤ w.heap.size + 1; omega) _).setCell (p := ⟨w.heap.size + 1, 1, none⟩) (by show w.heap.size ≤ w.heap.size + 1; omega) _).setCell (p := ⟨w.heap.size + 1, 2, none⟩) (by show w.heap.size ≤ w.heap.size + 1; omega) _
      generalize ((w3.setCell ⟨w.heap.size + 1, 0, none⟩ (.int .i64 la)).setCell ⟨w.heap.size + 1, 1, none⟩ (.int .i64 lb)).setCell ⟨w.heap.size + 1, 2, none⟩ (.int .i64 1) = WZ at *
      have HBZ := ((Below.refl WZ.heap.size WZ).alloc (Nat.le_refl _) (.cells #[.int .i64 la, .int .i64 lb] 27)).alloc (by simp) (.cells #[.int .i64 la, .int .i64 lb, .int .i64 1] 98)
      have y := blk_below hz HBZ
      have r0 := (blk_cell y 0).trans rfl
      have r1 := (blk_cell y 1).trans rfl
      have r2 := (blk_cell y 2).trans rfl
      exact bodyPost_ret (v := .tuple #[.agg #[.int .i64 la, .int .i64 lb, .int .i64 1], .nilIface]) (by simp [results, Tryd.results79, go_sem, r0, r1, r2]) rfl ⟨.inl ⟨HK.out, by rw [HSP.out]⟩, Bstep hbz HBZ⟩
    · have HNE : Hid (kidsL l (la, lb, 1) ≠ []) := fun h => by rw [h] at hlen; simp at hlen
      generalize (kidsL l (la, lb, 1)).length = kn at *
      clear hv HOW HSF hcell
      go_wp2_with (first
        | (at_lookup; refine wpList_look0 (t := 78) (e := 96) rfl _ _ rfl keyedSpot Tryd.underlying78 (.slice none 0 0) (zeroSlice _) encSpot_inj rfl HF.out.1 (la, lb, 1) rfl ks HKS.out _ HV0.out ?_))
      have hfb : ((w3.alloc (.cells #[.int .i64 la, .int .i64 lb] 27)).alloc (.cells #[.int .i64 la, .int .i64 lb, .int .i64 1] 98)).heap[w3.heap.size + 1]? = some (.cells #[.int .i64 la, .int .i64 lb, .int .i64 1] 98 (0, 0)) := by
        have h := World.alloc_heap_new (w3.alloc (.cells #[.int .i64 la, .int .i64 lb] 27)) (.cells #[.int .i64 la, .int .i64 lb, .int .i64 1] 98)
        rw [World.size_alloc] at h
        exact h
      have HFB := hideIt hfb
      clear hfb
      refine (callsIn_wide.1 (leafBehind_in l HO.out hn w0 b1 b2 b3 base HTT.out 3 (Nat.le_refl _) la lb _ ((HW.out.trans (HB3.out.mono HW.out.size)).trans (HBa.out.mono (Nat.le_trans HW.out.size HB3.out.size))) (by simp))).mono ?_
      rintro e w5 ⟨(⟨pp, y, qq, e1, e2, rfl⟩ | ⟨hno, rfl⟩), hb5⟩
      · have HSP := hideIt (HSN.out HNE.out _ _ (HNX.out pp y qq e1 e2))
        have HBX5 := hideIt (blk_below (blk_below HBX3.out HBa.out) hb5)
        have HFB5 := hideIt (blk_below HFB.out hb5)
        have HB5 := hideIt (Bstep HB3.out (Bstep HBa.out hb5))
        have hlt5 : w3.heap.size + 1 < w5.heap.size := (Array.getElem?_eq_some_iff.1 HFB5.out).1
        have hlt6 : w.heap.size + 1 < w5.heap.size := by omega
        clear HFB HBX3 hb5 e1 e2 HSN HNX HBE HF HBa HB3 i0 i1 i2 t0 t1 t2 fi hcap0 hGl
        generalize y.a = ya at *
        generalize y.b = yb at *
        have i0 := (blk_cell HBX5.out 0).trans rfl
        have i1 := (blk_cell HBX5.out 1).trans rfl
        have i2 := (blk_cell HBX5.out 2).trans rfl
        have f0 := (blk_cell HFB5.out 0).trans rfl
        have f1 := (blk_cell HFB5.out 1).trans rfl
        have f2 := (blk_cell HFB5.out 2).trans rfl
        have fi : ∀ j, w5.frozen? ⟨w.heap.size + 1, j, none⟩ = false := fun j => by simp [World.frozen?, HBX5.out]
        have ff : ∀ j, w5.frozen? ⟨w3.heap.size + 1, j, none⟩ = false := fun j => by simp [World.frozen?, HFB5.out]
        have hne : ¬ w.heap.size + 1 = w3.heap.size + 1 := by omega
        have hne' : ¬ w3.heap.size + 1 = w.heap.size + 1 := by omega
        have hBf : w.heap.size ≤ w3.heap.size + 1 := by omega
        have hS1' : w.heap.size ≤ w.heap.size + 1 := by omega
        generalize w3.heap.size + 1 = Bf at *
        generalize hS1 : w.heap.size + 1 = S1 at *
        clear hlt hlt0
        go_wp2
        have hz0 := blk_set1 (c := Bf) (i := 2) (u := .int .i64 0) (blk_set1 (c := Bf) (i := 1) (u := .int .i64 yb) (blk_set1 (c := Bf) (i := 0) (u := .int .i64 ya) HBX5.out hne) hne) hne
        have hz := set3b (u' := .int .i64 ya) (v' := .int .i64 yb) (x' := .int .i64 0) hz0
        have hbz : Below w.heap.size w ((((((w5.setCell ⟨Bf, 0, none⟩ (.int .i64 ya)).setCell ⟨Bf, 1, none⟩ (.int .i64 yb)).setCell ⟨Bf, 2, none⟩ (.int .i64 0)).setCell ⟨S1, 0, none⟩ (.int .i64 ya)).setCell ⟨S1, 1, none⟩ (.int .i64 yb)).setCell ⟨S1, 2, none⟩ (.int .i64 0)) :=
          (((((HB5.out.setCell (p := ⟨Bf, 0, none⟩) hBf _).setCell (p := ⟨Bf, 1, none⟩) hBf _).setCell (p := ⟨Bf, 2, none⟩) hBf _).setCell (p := ⟨S1, 0, none⟩) hS1' _).setCell (p := ⟨S1, 1, none⟩) hS1' _).setCell (p := ⟨S1, 2, none⟩) hS1' _
        have r0 := (blk_cell hz 0).trans rfl
        have r1 := (blk_cell hz 1).trans rfl
        have r2 := (blk_cell hz 2).trans rfl
        exact bodyPost_ret (v := .tuple #[.agg #[.int .i64 ya, .int .i64 yb, .int .i64 0], .nilIface]) (by simp only [results, Tryd.results79]; simp [go_sem, r0, r1, r2]) rfl ⟨.inl ⟨HK.out, by rw [HSP.out]⟩, hbz⟩
      · exact absurd hno (HBE.out HNE.out)
  · have HNO := hideIt HK.out
    go_wp2
    have hz := set3b (u' := .int .i64 0) (v' := .int .i64 0) (x' := .int .i64 0) HBX3.out
    have hbz : Below w.heap.size w (((w3.setCell ⟨w.heap.size + 1, 0, none⟩ (.int .i64 0)).setCell ⟨w.heap.size + 1, 1, none⟩ (.int .i64 0)).setCell ⟨w.heap.size + 1, 2, none⟩ (.int .i64 0)) := ((HB3.out.setCell (p := ⟨w.heap.size + 1, 0, none⟩) (by show w.heap.size ≤ w.heap.size + 1; omega) _).setCell (p := ⟨w.heap.size + 1, 1, none⟩) (by show w.heap.size ≤ w.heap.size + 1; omega) _).setCell (p := ⟨w.heap.size + 1, 2, none⟩) (by show w.heap.size ≤ w.heap.size + 1; omega) _
    generalize ((w3.setCell ⟨w.heap.size + 1, 0, none⟩ (.int .i64 0)).setCell ⟨w.heap.size + 1, 1, none⟩ (.int .i64 0)).setCell ⟨w.heap.size + 1, 2, none⟩ (.int .i64 0) = WZ at *
    have HBZ := (Below.refl WZ.heap.size WZ).alloc (Nat.le_refl _) (.cells #[.int .i64 0, .int .i64 0] 27)
    have y := blk_below hz HBZ
    have r0 := (blk_cell y 0).trans rfl
    have r1 := (blk_cell y 1).trans rfl
    have r2 := (blk_cell y 2).trans rfl
    exact bodyPost_ret (v := .tuple #[.agg #[.int .i64 0, .int .i64 0, .int .i64 0], .iface 164 (.pointer (some x))]) (by simp [results, Tryd.results79, go_sem, r0, r1, r2]) rfl ⟨.inr ⟨HNO.out, rfl⟩, Bstep hbz HBZ⟩
end Go.Proofs.YtjadkhejdbdpoaaDoor

namespace Go.Proofs.YtjadkhejdbdpoaaDoor
open Go.RowKit Go.Shelf
set_option linter.unusedSimpArgs false
set_option linter.unusedVariables false
attribute [local go_sem ↓] Go.wp_at_zero Go.wp_at_succ build_op0 build_opTake build_opPut

theorem putO_spot (l : List Op7) (r sg : Int) (t : Nat) : putO l r t sg = ⟨r, cnt l r + 1, 1, (spotO l t).1, (spotO l t).2.1, (spotO l t).2.2, sg⟩ := by
  unfold putO spotO
  split <;> rfl
theorem put_form {l : List Op7} {r sg : Int} {t : Nat} (h : mayMore l r = true) (ht : t ≤ (shownI (lvs l)).length) : opB r (cnt l r + 1) 1 (spotO l t).1 (spotO l t).2.1 (spotO l t).2.2 sg = inB sg 97 122 := by
  by_cases hsg : 97 ≤ sg ∧ sg ≤ 122
  · have hc := (put_can (sg := sg) h hsg ht).1.form
    rw [putO_spot] at hc
    have h2 : inB sg 97 122 = true := by simp [inB, hsg]
    rw [h2]
    exact hc
  · have h2 : inB sg 97 122 = false := by simp only [inB]; exact decide_eq_false hsg
    rw [h2]
    cases hb : opB r (cnt l r + 1) 1 (spotO l t).1 (spotO l t).2.1 (spotO l t).2.2 sg
    · rfl
    · rw [opB_true] at hb
      omega

theorem st_tree (w : World) (o : Obj) (a b c : Option Nat) : (Instr.storeAt 81 (.pointer (some ⟨w.heap.size, 0, none⟩)) (.agg #[.map a, .map b, .map c])).run Tryd.prog ((w.alloc (.cells #[.map none, .map none, .map none] 81)).alloc o) = .ok () ((w.alloc (.cells #[.map a, .map b, .map c] 81)).alloc o) := by
  simp [go_sem]
theorem st_id (w : World) (o : Obj) (a b : Int) : (Instr.storeAt 27 (.pointer (some ⟨w.heap.size + 1, 0, none⟩)) (.agg #[.int .i64 a, .int .i64 b])).run Tryd.prog ((w.alloc o).alloc (.cells #[.int .i64 0, .int .i64 0] 27)) = .ok () ((w.alloc o).alloc (.cells #[.int .i64 a, .int .i64 b] 27)) := by
  simp [go_sem]
theorem st_spot (w : World) (a b c : Int) : (Instr.storeAt 98 (.pointer (some ⟨w.heap.size, 0, none⟩)) (.agg #[.int .i64 a, .int .i64 b, .int .i64 c])).run Tryd.prog (w.alloc (.cells #[.int .i64 0, .int .i64 0, .int .i64 0] 98)) = .ok () (w.alloc (.cells #[.int .i64 a, .int .i64 b, .int .i64 c] 98)) := by
  simp [go_sem]
theorem st_op (w : World) (o : Obj) (a1 a2 a3 a4 a5 a6 a7 : Int) : (Instr.storeAt 29 (.pointer (some ⟨w.heap.size + 1, 0, none⟩)) (.agg #[.int .i64 a1, .int .i64 a2, .int .i64 a3, .int .i64 a4, .int .i64 a5, .int .i64 a6, .int .i64 a7])).run Tryd.prog ((w.alloc o).alloc (.cells #[.int .i64 0, .int .i64 0, .int .i64 0, .int .i64 0, .int .i64 0, .int .i64 0, .int .i64 0] 29)) = .ok () ((w.alloc o).alloc (.cells #[.int .i64 a1, .int .i64 a2, .int .i64 a3, .int .i64 a4, .int .i64 a5, .int .i64 a6, .int .i64 a7] 29)) := by
  have h := store_op_new (w.alloc o) a1 a2 a3 a4 a5 a6 a7
  rw [World.size_alloc] at h
  exact h

attribute [-go_sem] Instr.storeAt
attribute [local go_sem ↓] store_op_new st_tree st_id st_spot st_op
set_option maxRecDepth 100000 in
set_option maxHeartbeats 2000000 in
theorem puttingAt_any (l : List Op7) (g cap : Nat) (r t sg : Int) (hwf : wf64 t) (x : Addr) (w : World) (hl : OpsAt w g l) (hn : l.length ≤ 1048576) (hcap : l.length ≤ cap)
    (he : w.cell? ⟨0, 0, none⟩ = some (.iface 164 (.pointer (some x)))) (h0 : 0 < w.heap.size) :
    Calls Tryd.prog 49 #[.slice (some ⟨g, 0, none⟩) l.length cap, .int .i64 r, .int .i64 t, .int .i64 sg] w fun e w' =>
      ((mayPut l r t sg = false ∧ e = .returned (.tuple #[.agg #[.int .i64 0, .int .i64 0, .int .i64 0, .int .i64 0, .int .i64 0, .int .i64 0, .int .i64 0], .iface 164 (.pointer (some x))])) ∨
       (mayPut l r t sg = true ∧ e = .returned (.tuple #[opV (putO l r t.toNat sg), .nilIface]))) ∧ Below w.heap.size w w' := by
  have HL := hideIt hl
  have hgw := hl.1
  clear hl
  go_enter Tryd.func49, Tryd.ntmps49
  go_wp2_with fail
  have HRB := hideIt (RB.start w)
  refine (treeNext_any l g cap r x _ (HL.out.below HRB.out.bel hgw) hn hcap (errB HRB.out.bel h0 he) (posB HRB.out.bel h0)).mono ?_
  rintro e w1 ⟨(⟨hm, rfl⟩ | ⟨hm, b1, b2, b3, base, rfl, hT⟩), hb1⟩
  all_goals
    have HM := hideIt hm
    have HR1 := hideIt (HRB.out.below hb1)
    have hwl := HR1.out.lt
    clear hm hb1 HRB
  · have HA := hideIt (HR1.out.below (((Below.refl _ _).alloc (Nat.le_refl _) (.cells #[.map none, .map none, .map none] 81)).alloc (by simp) (.cells #[.int .i64 0, .int .i64 0] 27)))
    go_wp2_with (first | (refine wpList_store_row rfl 29 _ _ rfl w.heap.size _ rfl rfl 29 _ HA.out.box (by kernel_rfl) rfl (all7 _ _ _ _ _ _ _) ?_; have HST := hideIt (HA.out.stored 0 0 0 0 0 0 0); generalize World.setRow _ _ _ = W9 at *))
    obtain ⟨hb9, hbel9⟩ := HST.out
    have r0 := (blkCell hb9 0).trans rfl
    have r1 := (blkCell hb9 1).trans rfl
    have r2 := (blkCell hb9 2).trans rfl
    have r3 := (blkCell hb9 3).trans rfl
    have r4 := (blkCell hb9 4).trans rfl
    have r5 := (blkCell hb9 5).trans rfl
    have r6 := (blkCell hb9 6).trans rfl
    exact bodyPost_ret (v := .tuple #[.agg #[.int .i64 0, .int .i64 0, .int .i64 0, .int .i64 0, .int .i64 0, .int .i64 0, .int .i64 0], .iface 164 (.pointer (some x))]) (by simp [results, Tryd.results49, go_sem, r0, r1, r2, r3, r4, r5, r6]) rfl ⟨.inl ⟨by simp [mayPut, HM.out], rfl⟩, hbel9⟩
  · have HTT := hideIt hT
    have HOI : Hid (opsB l = true) := by
      have h := HM.out
      unfold mayMore at h
      simp only [Bool.and_eq_true] at h
      exact h.1.1
    clear hT
    generalize hcn : cnt l r + 1 = cn
    have HCN := hideIt hcn
    clear hcn
    go_wp2_with fail
    have HBa : Hid (Below w1.heap.size w1 ((w1.alloc (.cells #[.map (some b1), .map (some b2), .map (some b3)] 81)).alloc (.cells #[.int .i64 r, .int .i64 cn] 27))) := ((Below.refl _ _).alloc (Nat.le_refl _) _).alloc (by simp) _
    have HIa : Hid (((w1.alloc (.cells #[.map (some b1), .map (some b2), .map (some b3)] 81)).alloc (.cells #[.int .i64 r, .int .i64 cn] 27)).heap[w1.heap.size + 1]? = some (.cells #[.int .i64 r, .int .i64 cn] 27 (0, 0))) := by
      have h := World.alloc_heap_new (w1.alloc (.cells #[.map (some b1), .map (some b2), .map (some b3)] 81)) (.cells #[.int .i64 r, .int .i64 cn] 27)
      rw [World.size_alloc] at h
      exact h
    have HR2 := hideIt (HR1.out.below HBa.out)
    refine (spotFor_any l HOI.out hn w1 b1 b2 b3 base HTT.out t hwf x _ HBa.out (errB HR2.out.bel h0 he) (posB HR2.out.bel h0)).mono ?_
    rintro e w3 ⟨(⟨hk, rfl⟩ | ⟨hk, rfl⟩), hb3⟩
    all_goals
      have HR3 := hideIt (HR2.out.below hb3)
      have HI3 := hideIt (blk_below HIa.out hb3)
      have hwl3 := HR3.out.lt
      have hil3 := (Array.getElem?_eq_some_iff.1 HI3.out).1
      have hdd : w1.heap.size + 1 ≠ w.heap.size := by omega
      have HK := hideIt hk
      clear hb3 HR2 HIa HBa hk
      generalize w1.heap.size + 1 = Bi at *
    · have htl : t.toNat ≤ (shownI (lvs l)).length := by have h := HK.out; simp [inB] at h; omega
      have HFO : Hid (opB r cn 1 (spotO l t.toNat).1 (spotO l t.toNat).2.1 (spotO l t.toNat).2.2 sg = inB sg 97 122) := by rw [← HCN.out]; exact put_form HM.out htl
      have HPO : Hid (putO l r t.toNat sg = ⟨r, cn, 1, (spotO l t.toNat).1, (spotO l t.toNat).2.1, (spotO l t.toNat).2.2, sg⟩) := by rw [← HCN.out]; exact putO_spot l r sg t.toNat
      clear htl
      generalize spotO l t.toNat = sp at *
      obtain ⟨ya, yb, ys⟩ := sp
      dsimp only at *
      have d0 := (blk_cell HI3.out 0).trans rfl
      have d1 := (blk_cell HI3.out 1).trans rfl
      go_wp2_with fail
      have hb2 : Below w3.heap.size w3 ((w3.alloc (.cells #[.int .i64 ya, .int .i64 yb, .int .i64 ys] 98)).alloc (.cells #[.int .i64 r, .int .i64 cn, .int .i64 1, .int .i64 ya, .int .i64 yb, .int .i64 ys, .int .i64 sg] 29)) := ((Below.refl _ _).alloc (Nat.le_refl _) _).alloc (by simp) _
      have hob : ((w3.alloc (.cells #[.int .i64 ya, .int .i64 yb, .int .i64 ys] 98)).alloc (.cells #[.int .i64 r, .int .i64 cn, .int .i64 1, .int .i64 ya, .int .i64 yb, .int .i64 ys, .int .i64 sg] 29)).heap[w3.heap.size + 1]? = some (.cells #[.int .i64 r, .int .i64 cn, .int .i64 1, .int .i64 ya, .int .i64 yb, .int .i64 ys, .int .i64 sg] 29 (0, 0)) := by
        have h := World.alloc_heap_new (w3.alloc (.cells #[.int .i64 ya, .int .i64 yb, .int .i64 ys] 98)) (.cells #[.int .i64 r, .int .i64 cn, .int .i64 1, .int .i64 ya, .int .i64 yb, .int .i64 ys, .int .i64 sg] 29)
        rw [World.size_alloc] at h
        exact h
      have HR4 := hideIt (HR3.out.below hb2)
      have hnb : w3.heap.size + 1 ≠ w.heap.size := by omega
      clear hb2 d0 d1 HR3 HI3
      have HOB := hideIt hob
      clear hob
      generalize ((w3.alloc (.cells #[.int .i64 ya, .int .i64 yb, .int .i64 ys] 98)).alloc (.cells #[.int .i64 r, .int .i64 cn, .int .i64 1, .int .i64 ya, .int .i64 yb, .int .i64 ys, .int .i64 sg] 29)) = W4 at *
      generalize w3.heap.size + 1 = Bo at *
      refine (implOp_any r cn 1 ya yb ys sg x W4 (errB HR4.out.bel h0 he) (posB HR4.out.bel h0)).mono ?_
      rintro e w5 ⟨rfl, hb5⟩
      rw [HFO.out]
      have HR5 := hideIt (HR4.out.below hb5)
      have HO5 := hideIt (blk_below HOB.out hb5)
      have hlo5 := (Array.getElem?_eq_some_iff.1 HO5.out).1
      have o0 := (blk_cell HO5.out 0).trans rfl
      have o1 := (blk_cell HO5.out 1).trans rfl
      have o2 := (blk_cell HO5.out 2).trans rfl
      have o3 := (blk_cell HO5.out 3).trans rfl
      have o4 := (blk_cell HO5.out 4).trans rfl
      have o5 := (blk_cell HO5.out 5).trans rfl
      have o6 := (blk_cell HO5.out 6).trans rfl
      clear hb5 HR4 HOB
      cases hsg : inB sg 97 122
      · have HNO : Hid (mayPut l r t sg = false) := by show mayPut l r t sg = false; unfold mayPut; rw [hsg]; simp
        clear hsg o0 o1 o2 o3 o4 o5 o6
        have herr5 := errB HR5.out.bel h0 he
        have nz : ¬ 0 = w.heap.size := by omega
        go_wp2_with fail
        have K1 : Hid (w5.drew.cell? ⟨0, 0, none⟩ = some (.iface 164 (.pointer (some x)))) := herr5
        have K9 : Hid ((w5.drew.setRow w.heap.size #[.int .i64 0, .int .i64 0, .int .i64 0, .int .i64 0, .int .i64 0, .int .i64 0, .int .i64 0]).cell? ⟨0, 0, none⟩ = some (.iface 164 (.pointer (some x)))) := setRow_cell (W := w5.drew) nz herr5
        have ks1 : (Instr.storeAt 29 (.pointer (some ⟨w.heap.size, 0, none⟩)) (.agg #[.int .i64 0, .int .i64 0, .int .i64 0, .int .i64 0, .int .i64 0, .int .i64 0, .int .i64 0])).run Tryd.prog w5.drew = .ok () (w5.drew.setRow w.heap.size #[.int .i64 0, .int .i64 0, .int .i64 0, .int .i64 0, .int .i64 0, .int .i64 0, .int .i64 0]) := store_op w5.drew w.heap.size _ HR5.out.box rfl 0 0 0 0 0 0 0
        have HST := hideIt ((HR5.out.below ((Below.refl _ _).drew)).stored 0 0 0 0 0 0 0)
        clear herr5
        go_region_held3 (fun w' => w'.cell? ⟨0, 0, none⟩ = some (.iface 164 (.pointer (some x))))
          (first | with_reducible exact K1.out | with_reducible exact K9.out)
          (fail)
        rename_i hHH
        clear hHH K9 K1 ks1
        generalize World.setRow _ _ _ = W9 at *
        go_wp2
        obtain ⟨hb9, hbel9⟩ := HST.out
        have r0 := (blkCell hb9 0).trans rfl
        have r1 := (blkCell hb9 1).trans rfl
        have r2 := (blkCell hb9 2).trans rfl
        have r3 := (blkCell hb9 3).trans rfl
        have r4 := (blkCell hb9 4).trans rfl
        have r5 := (blkCell hb9 5).trans rfl
        have r6 := (blkCell hb9 6).trans rfl
        exact bodyPost_ret (v := .tuple #[.agg #[.int .i64 0, .int .i64 0, .int .i64 0, .int .i64 0, .int .i64 0, .int .i64 0, .int .i64 0], .iface 164 (.pointer (some x))]) (by simp [results, Tryd.results49, go_sem, r0, r1, r2, r3, r4, r5, r6]) rfl ⟨.inl ⟨HNO.out, rfl⟩, hbel9⟩
      · have HYES : Hid (mayPut l r t sg = true) := by show mayPut l r t sg = true; unfold mayPut; rw [HM.out, hsg, HK.out]; rfl
        clear hsg
        have HA := HR5
        go_wp2_with (first | (refine wpList_store_row rfl 29 _ _ rfl w.heap.size _ rfl rfl 29 _ HA.out.box (by kernel_rfl) rfl (all7 _ _ _ _ _ _ _) ?_; have HST := hideIt (HA.out.stored r cn 1 ya yb ys sg); generalize World.setRow _ _ _ = W9 at *))
        obtain ⟨hb9, hbel9⟩ := HST.out
        have r0 := (blkCell hb9 0).trans rfl
        have r1 := (blkCell hb9 1).trans rfl
        have r2 := (blkCell hb9 2).trans rfl
        have r3 := (blkCell hb9 3).trans rfl
        have r4 := (blkCell hb9 4).trans rfl
        have r5 := (blkCell hb9 5).trans rfl
        have r6 := (blkCell hb9 6).trans rfl
        exact bodyPost_ret (v := .tuple #[.agg #[.int .i64 r, .int .i64 cn, .int .i64 1, .int .i64 ya, .int .i64 yb, .int .i64 ys, .int .i64 sg], .nilIface]) (by simp [results, Tryd.results49, go_sem, r0, r1, r2, r3, r4, r5, r6]) rfl ⟨.inr ⟨HYES.out, by rw [HPO.out]; rfl⟩, hbel9⟩
    · have HNO : Hid (mayPut l r t sg = false) := by show mayPut l r t sg = false; unfold mayPut; rw [HK.out]; simp
      have HA := hideIt (HR3.out.below ((Below.refl _ _).alloc (Nat.le_refl _) (.cells #[.int .i64 0, .int .i64 0, .int .i64 0] 98)))
      go_wp2_with (first | (refine wpList_store_row rfl 29 _ _ rfl w.heap.size _ rfl rfl 29 _ HA.out.box (by kernel_rfl) rfl (all7 _ _ _ _ _ _ _) ?_; have HST := hideIt (HA.out.stored 0 0 0 0 0 0 0); generalize World.setRow _ _ _ = W9 at *))
      obtain ⟨hb9, hbel9⟩ := HST.out
      have r0 := (blkCell hb9 0).trans rfl
      have r1 := (blkCell hb9 1).trans rfl
      have r2 := (blkCell hb9 2).trans rfl
      have r3 := (blkCell hb9 3).trans rfl
      have r4 := (blkCell hb9 4).trans rfl
      have r5 := (blkCell hb9 5).trans rfl
      have r6 := (blkCell hb9 6).trans rfl
      exact bodyPost_ret (v := .tuple #[.agg #[.int .i64 0, .int .i64 0, .int .i64 0, .int .i64 0, .int .i64 0, .int .i64 0, .int .i64 0], .iface 164 (.pointer (some x))]) (by simp [results, Tryd.results49, go_sem, r0, r1, r2, r3, r4, r5, r6]) rfl ⟨.inl ⟨HNO.out, rfl⟩, hbel9⟩
end Go.Proofs.YtjadkhejdbdpoaaDoor

namespace Go.Proofs.YtjadkhejdbdpoaaDoor
open Go.RowKit Go.Shelf
set_option linter.unusedSimpArgs false
set_option linter.unusedVariables false
attribute [local go_sem ↓] Go.wp_at_zero Go.wp_at_succ build_op0 build_opTake build_opPut

attribute [-go_sem] Instr.storeAt
attribute [local go_sem ↓] store_op_new
set_option maxRecDepth 100000 in
set_option maxHeartbeats 2000000 in
theorem implPut_any (l : List Op7) (g cap : Nat) (r t sg : Int) (hwf : wf64 t) (x : Addr) (w : World) (hl : OpsAt w g l) (hn : l.length ≤ 1048576) (hcap : l.length ≤ cap)
    (he : w.cell? ⟨0, 0, none⟩ = some (.iface 164 (.pointer (some x)))) (h0 : 0 < w.heap.size) :
    Calls Tryd.prog 17 #[.slice (some ⟨g, 0, none⟩) l.length cap, .int .i64 r, .int .i64 t, .int .i64 sg] w fun e w' =>
      ((mayPut l r t sg = false ∧ e = .returned (.tuple #[.agg #[.int .i64 0, .int .i64 0, .int .i64 0, .int .i64 0, .int .i64 0, .int .i64 0, .int .i64 0], .bool false])) ∨
       (mayPut l r t sg = true ∧ e = .returned (.tuple #[opV (putO l r t.toNat sg), .bool true]))) ∧ Below w.heap.size w w' := by
  have HL := hideIt hl
  have hgw := hl.1
  clear hl
  go_enter Tryd.func17, Tryd.ntmps17
  go_wp2_with fail
  have HRB := hideIt (RB.start w)
  refine (puttingAt_any l g cap r t sg hwf x _ (HL.out.below HRB.out.bel hgw) hn hcap (errB HRB.out.bel h0 he) (posB HRB.out.bel h0)).mono ?_
  rintro e w1 ⟨(⟨hm, rfl⟩ | ⟨hm, rfl⟩), hb1⟩
  all_goals
    have HM := hideIt hm
    have HR1 := hideIt (HRB.out.below hb1)
    have hwl := HR1.out.lt
    clear hm hb1 HRB
  · go_wp2_with fail
    obtain ⟨Wm, hWm⟩ : ∃ Wm, w1.alloc (.cells #[.int .i64 0, .int .i64 0, .int .i64 0, .int .i64 0, .int .i64 0, .int .i64 0, .int .i64 0] 29) = Wm := ⟨_, rfl⟩
    have hbm : Below w1.heap.size w1 Wm := by rw [← hWm]; exact (Below.refl _ _).alloc (Nat.le_refl _) _
    have hmk : Wm.heap[w1.heap.size]? = some (.cells #[.int .i64 0, .int .i64 0, .int .i64 0, .int .i64 0, .int .i64 0, .int .i64 0, .int .i64 0] 29 (0, 0)) := by rw [← hWm]; exact World.alloc_heap_new _ _
    have HIM := hideIt (HR1.out.below hbm)
    have herrm : Wm.cell? ⟨0, 0, none⟩ = some (.iface 164 (.pointer (some x))) := errB HIM.out.bel h0 he
    rw [hWm]
    clear hWm hbm
    have m0 := (blk_cell hmk 0).trans rfl
    have m1 := (blk_cell hmk 1).trans rfl
    have m2 := (blk_cell hmk 2).trans rfl
    have m3 := (blk_cell hmk 3).trans rfl
    have m4 := (blk_cell hmk 4).trans rfl
    have m5 := (blk_cell hmk 5).trans rfl
    have m6 := (blk_cell hmk 6).trans rfl
    clear hmk
    generalize w1.heap.size = M at *
    have n1 : M ≠ w.heap.size := by omega
    have n2 : 0 ≠ w.heap.size := by omega
    have K1 : Hid (Wm.drew.cell? ⟨M, 0, none⟩ = some (.int .i64 0) ∧ Wm.drew.cell? ⟨M, 1, none⟩ = some (.int .i64 0) ∧ Wm.drew.cell? ⟨M, 2, none⟩ = some (.int .i64 0) ∧ Wm.drew.cell? ⟨M, 3, none⟩ = some (.int .i64 0) ∧ Wm.drew.cell? ⟨M, 4, none⟩ = some (.int .i64 0) ∧ Wm.drew.cell? ⟨M, 5, none⟩ = some (.int .i64 0) ∧ Wm.drew.cell? ⟨M, 6, none⟩ = some (.int .i64 0) ∧ Wm.drew.cell? ⟨0, 0, none⟩ = some (.iface 164 (.pointer (some x)))) := ⟨m0, m1, m2, m3, m4, m5, m6, herrm⟩
    have K9 : Hid ((Wm.drew.setRow w.heap.size #[.int .i64 0, .int .i64 0, .int .i64 0, .int .i64 0, .int .i64 0, .int .i64 0, .int .i64 0]).cell? ⟨M, 0, none⟩ = some (.int .i64 0) ∧ (Wm.drew.setRow w.heap.size #[.int .i64 0, .int .i64 0, .int .i64 0, .int .i64 0, .int .i64 0, .int .i64 0, .int .i64 0]).cell? ⟨M, 1, none⟩ = some (.int .i64 0) ∧ (Wm.drew.setRow w.heap.size #[.int .i64 0, .int .i64 0, .int .i64 0, .int .i64 0, .int .i64 0, .int .i64 0, .int .i64 0]).cell? ⟨M, 2, none⟩ = some (.int .i64 0) ∧ (Wm.drew.setRow w.heap.size #[.int .i64 0, .int .i64 0, .int .i64 0, .int .i64 0, .int .i64 0, .int .i64 0, .int .i64 0]).cell? ⟨M, 3, none⟩ = some (.int .i64 0) ∧ (Wm.drew.setRow w.heap.size #[.int .i64 0, .int .i64 0, .int .i64 0, .int .i64 0, .int .i64 0, .int .i64 0, .int .i64 0]).cell? ⟨M, 4, none⟩ = some (.int .i64 0) ∧ (Wm.drew.setRow w.heap.size #[.int .i64 0, .int .i64 0, .int .i64 0, .int .i64 0, .int .i64 0, .int .i64 0, .int .i64 0]).cell? ⟨M, 5, none⟩ = some (.int .i64 0) ∧ (Wm.drew.setRow w.heap.size #[.int .i64 0, .int .i64 0, .int .i64 0, .int .i64 0, .int .i64 0, .int .i64 0, .int .i64 0]).cell? ⟨M, 6, none⟩ = some (.int .i64 0) ∧ (Wm.drew.setRow w.heap.size #[.int .i64 0, .int .i64 0, .int .i64 0, .int .i64 0, .int .i64 0, .int .i64 0, .int .i64 0]).cell? ⟨0, 0, none⟩ = some (.iface 164 (.pointer (some x)))) := ⟨setRow_cell (W := Wm.drew) n1 m0, setRow_cell (W := Wm.drew) n1 m1, setRow_cell (W := Wm.drew) n1 m2, setRow_cell (W := Wm.drew) n1 m3, setRow_cell (W := Wm.drew) n1 m4, setRow_cell (W := Wm.drew) n1 m5, setRow_cell (W := Wm.drew) n1 m6, setRow_cell (W := Wm.drew) n2 herrm⟩
    have ks1 : (Instr.storeAt 29 (.pointer (some ⟨w.heap.size, 0, none⟩)) (.agg #[.int .i64 0, .int .i64 0, .int .i64 0, .int .i64 0, .int .i64 0, .int .i64 0, .int .i64 0])).run Tryd.prog Wm.drew = .ok () (Wm.drew.setRow w.heap.size #[.int .i64 0, .int .i64 0, .int .i64 0, .int .i64 0, .int .i64 0, .int .i64 0, .int .i64 0]) := store_op Wm.drew w.heap.size _ HIM.out.box rfl 0 0 0 0 0 0 0
    have HST := hideIt ((HIM.out.below ((Below.refl _ _).drew)).stored 0 0 0 0 0 0 0)
    clear m0 m1 m2 m3 m4 m5 m6
    go_region_held3 (fun w' => w'.cell? ⟨M, 0, none⟩ = some (.int .i64 0) ∧ w'.cell? ⟨M, 1, none⟩ = some (.int .i64 0) ∧ w'.cell? ⟨M, 2, none⟩ = some (.int .i64 0) ∧ w'.cell? ⟨M, 3, none⟩ = some (.int .i64 0) ∧ w'.cell? ⟨M, 4, none⟩ = some (.int .i64 0) ∧ w'.cell? ⟨M, 5, none⟩ = some (.int .i64 0) ∧ w'.cell? ⟨M, 6, none⟩ = some (.int .i64 0) ∧ w'.cell? ⟨0, 0, none⟩ = some (.iface 164 (.pointer (some x))))
      (first | with_reducible exact K1.out | with_reducible exact K9.out)
      (first | (go_at_call 50; refine (is_same x _).mono ?_; rintro e w'' ⟨rfl, rfl⟩))
    rename_i hHH
    clear hHH K9 K1 ks1
    generalize World.setRow _ _ _ = W9 at *
    go_wp2
    obtain ⟨hb9, hbel9⟩ := HST.out
    have r0 := (blkCell hb9 0).trans rfl
    have r1 := (blkCell hb9 1).trans rfl
    have r2 := (blkCell hb9 2).trans rfl
    have r3 := (blkCell hb9 3).trans rfl
    have r4 := (blkCell hb9 4).trans rfl
    have r5 := (blkCell hb9 5).trans rfl
    have r6 := (blkCell hb9 6).trans rfl
    exact bodyPost_ret (v := .tuple #[.agg #[.int .i64 0, .int .i64 0, .int .i64 0, .int .i64 0, .int .i64 0, .int .i64 0, .int .i64 0], .bool false]) (by simp [results, Tryd.results17, go_sem, r0, r1, r2, r3, r4, r5, r6]) rfl ⟨.inl ⟨HM.out, rfl⟩, hbel9⟩
  · obtain ⟨oa, ob, ok, oc, od, os, og, ho⟩ : ∃ oa ob ok oc od os og, putO l r t.toNat sg = ⟨oa, ob, ok, oc, od, os, og⟩ := ⟨_, _, _, _, _, _, _, rfl⟩
    have HOO := hideIt ho
    rw [ho]
    clear ho
    unfold opV
    dsimp only
    go_wp2_with fail
    obtain ⟨Wm, hWm⟩ : ∃ Wm, w1.alloc (.cells #[.int .i64 oa, .int .i64 ob, .int .i64 ok, .int .i64 oc, .int .i64 od, .int .i64 os, .int .i64 og] 29) = Wm := ⟨_, rfl⟩
    have hbm : Below w1.heap.size w1 Wm := by rw [← hWm]; exact (Below.refl _ _).alloc (Nat.le_refl _) _
    have hmk : Wm.heap[w1.heap.size]? = some (.cells #[.int .i64 oa, .int .i64 ob, .int .i64 ok, .int .i64 oc, .int .i64 od, .int .i64 os, .int .i64 og] 29 (0, 0)) := by rw [← hWm]; exact World.alloc_heap_new _ _
    have HIM := hideIt (HR1.out.below hbm)
    have herrm : Wm.cell? ⟨0, 0, none⟩ = some (.iface 164 (.pointer (some x))) := errB HIM.out.bel h0 he
    rw [hWm]
    clear hWm hbm
    have m0 := (blk_cell hmk 0).trans rfl
    have m1 := (blk_cell hmk 1).trans rfl
    have m2 := (blk_cell hmk 2).trans rfl
    have m3 := (blk_cell hmk 3).trans rfl
    have m4 := (blk_cell hmk 4).trans rfl
    have m5 := (blk_cell hmk 5).trans rfl
    have m6 := (blk_cell hmk 6).trans rfl
    clear hmk
    generalize w1.heap.size = M at *
    have n1 : M ≠ w.heap.size := by omega
    have n2 : 0 ≠ w.heap.size := by omega
    have K1 : Hid (Wm.drew.cell? ⟨M, 0, none⟩ = some (.int .i64 oa) ∧ Wm.drew.cell? ⟨M, 1, none⟩ = some (.int .i64 ob) ∧ Wm.drew.cell? ⟨M, 2, none⟩ = some (.int .i64 ok) ∧ Wm.drew.cell? ⟨M, 3, none⟩ = some (.int .i64 oc) ∧ Wm.drew.cell? ⟨M, 4, none⟩ = some (.int .i64 od) ∧ Wm.drew.cell? ⟨M, 5, none⟩ = some (.int .i64 os) ∧ Wm.drew.cell? ⟨M, 6, none⟩ = some (.int .i64 og) ∧ Wm.drew.cell? ⟨0, 0, none⟩ = some (.iface 164 (.pointer (some x)))) := ⟨m0, m1, m2, m3, m4, m5, m6, herrm⟩
    have K9 : Hid ((Wm.drew.setRow w.heap.size #[.int .i64 oa, .int .i64 ob, .int .i64 ok, .int .i64 oc, .int .i64 od, .int .i64 os, .int .i64 og]).cell? ⟨M, 0, none⟩ = some (.int .i64 oa) ∧ (Wm.drew.setRow w.heap.size #[.int .i64 oa, .int .i64 ob, .int .i64 ok, .int .i64 oc, .int .i64 od, .int .i64 os, .int .i64 og]).cell? ⟨M, 1, none⟩ = some (.int .i64 ob) ∧ (Wm.drew.setRow w.heap.size #[.int .i64 oa, .int .i64 ob, .int .i64 ok, .int .i64 oc, .int .i64 od, .int .i64 os, .int .i64 og]).cell? ⟨M, 2, none⟩ = some (.int .i64 ok) ∧ (Wm.drew.setRow w.heap.size #[.int .i64 oa, .int .i64 ob, .int .i64 ok, .int .i64 oc, .int .i64 od, .int .i64 os, .int .i64 og]).cell? ⟨M, 3, none⟩ = some (.int .i64 oc) ∧ (Wm.drew.setRow w.heap.size #[.int .i64 oa, .int .i64 ob, .int .i64 ok, .int .i64 oc, .int .i64 od, .int .i64 os, .int .i64 og]).cell? ⟨M, 4, none⟩ = some (.int .i64 od) ∧ (Wm.drew.setRow w.heap.size #[.int .i64 oa, .int .i64 ob, .int .i64 ok, .int .i64 oc, .int .i64 od, .int .i64 os, .int .i64 og]).cell? ⟨M, 5, none⟩ = some (.int .i64 os) ∧ (Wm.drew.setRow w.heap.size #[.int .i64 oa, .int .i64 ob, .int .i64 ok, .int .i64 oc, .int .i64 od, .int .i64 os, .int .i64 og]).cell? ⟨M, 6, none⟩ = some (.int .i64 og) ∧ (Wm.drew.setRow w.heap.size #[.int .i64 oa, .int .i64 ob, .int .i64 ok, .int .i64 oc, .int .i64 od, .int .i64 os, .int .i64 og]).cell? ⟨0, 0, none⟩ = some (.iface 164 (.pointer (some x)))) := ⟨setRow_cell (W := Wm.drew) n1 m0, setRow_cell (W := Wm.drew) n1 m1, setRow_cell (W := Wm.drew) n1 m2, setRow_cell (W := Wm.drew) n1 m3, setRow_cell (W := Wm.drew) n1 m4, setRow_cell (W := Wm.drew) n1 m5, setRow_cell (W := Wm.drew) n1 m6, setRow_cell (W := Wm.drew) n2 herrm⟩
    have ks1 : (Instr.storeAt 29 (.pointer (some ⟨w.heap.size, 0, none⟩)) (.agg #[.int .i64 oa, .int .i64 ob, .int .i64 ok, .int .i64 oc, .int .i64 od, .int .i64 os, .int .i64 og])).run Tryd.prog Wm.drew = .ok () (Wm.drew.setRow w.heap.size #[.int .i64 oa, .int .i64 ob, .int .i64 ok, .int .i64 oc, .int .i64 od, .int .i64 os, .int .i64 og]) := store_op Wm.drew w.heap.size _ HIM.out.box rfl oa ob ok oc od os og
    have HST := hideIt ((HIM.out.below ((Below.refl _ _).drew)).stored oa ob ok oc od os og)
    clear m0 m1 m2 m3 m4 m5 m6
    go_region_held3 (fun w' => w'.cell? ⟨M, 0, none⟩ = some (.int .i64 oa) ∧ w'.cell? ⟨M, 1, none⟩ = some (.int .i64 ob) ∧ w'.cell? ⟨M, 2, none⟩ = some (.int .i64 ok) ∧ w'.cell? ⟨M, 3, none⟩ = some (.int .i64 oc) ∧ w'.cell? ⟨M, 4, none⟩ = some (.int .i64 od) ∧ w'.cell? ⟨M, 5, none⟩ = some (.int .i64 os) ∧ w'.cell? ⟨M, 6, none⟩ = some (.int .i64 og) ∧ w'.cell? ⟨0, 0, none⟩ = some (.iface 164 (.pointer (some x))))
      (first | with_reducible exact K1.out | with_reducible exact K9.out)
      (first | (go_at_call 50; refine (is_nil x _).mono ?_; rintro e w'' ⟨rfl, rfl⟩))
    rename_i hHH
    clear hHH K9 K1 ks1
    generalize World.setRow _ _ _ = W9 at *
    go_wp2
    obtain ⟨hb9, hbel9⟩ := HST.out
    have r0 := (blkCell hb9 0).trans rfl
    have r1 := (blkCell hb9 1).trans rfl
    have r2 := (blkCell hb9 2).trans rfl
    have r3 := (blkCell hb9 3).trans rfl
    have r4 := (blkCell hb9 4).trans rfl
    have r5 := (blkCell hb9 5).trans rfl
    have r6 := (blkCell hb9 6).trans rfl
    exact bodyPost_ret (v := .tuple #[.agg #[.int .i64 oa, .int .i64 ob, .int .i64 ok, .int .i64 oc, .int .i64 od, .int .i64 os, .int .i64 og], .bool true]) (by simp [results, Tryd.results17, go_sem, r0, r1, r2, r3, r4, r5, r6]) rfl ⟨.inr ⟨HM.out, by rw [HOO.out]; rfl⟩, hbel9⟩
/-- What both answer. -/
def putA (l : List Op7) (r t sg : Int) : Op7 := if mayPut l r t sg = true then putO l r t.toNat sg else ⟨0, 0, 0, 0, 0, 0, 0⟩
theorem putA_of {l : List Op7} {r t sg : Int} {e : Ending} (h : (mayPut l r t sg = false ∧ e = .returned (.tuple #[.agg #[.int .i64 0, .int .i64 0, .int .i64 0, .int .i64 0, .int .i64 0, .int .i64 0, .int .i64 0], .bool false])) ∨ (mayPut l r t sg = true ∧ e = .returned (.tuple #[opV (putO l r t.toNat sg), .bool true]))) : e = .returned (.tuple #[opV (putA l r t sg), .bool (mayPut l r t sg)]) := by
  rcases h with ⟨h1, h2⟩ | ⟨h1, h2⟩
  · rw [h2]; unfold putA; rw [h1]; rfl
  · rw [h2]; unfold putA; rw [h1]; rfl
end Go.Proofs.YtjadkhejdbdpoaaDoor

namespace Go.Proofs.YtjadkhejdbdpoaaDoor
open Go.RowKit
set_option linter.unusedSimpArgs false
set_option linter.unusedVariables false
/-- A box with a thing in it, in memory that has grown. -/
structure OX (b : Nat) (o : Op7) (w W : World) : Prop where
  box : W.heap[b]? = some (.cells #[.int .i64 o.a, .int .i64 o.b, .int .i64 o.k, .int .i64 o.c, .int .i64 o.d, .int .i64 o.s, .int .i64 o.g] 29 (0, 0))
  bel : Below w.heap.size w W
theorem OX.below {b : Nat} {o : Op7} {w W W' : World} (h : OX b o w W) (hb : Below W.heap.size W W') : OX b o w W' := ⟨blk_below h.box hb, Bstep h.bel hb⟩
end Go.Proofs.YtjadkhejdbdpoaaDoor
