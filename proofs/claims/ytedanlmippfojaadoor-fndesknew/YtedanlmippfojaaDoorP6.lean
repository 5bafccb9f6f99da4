/- Two rows of things of one's own, kept through a region of drawn order. -/
import Derived.Test.YtedanlmippfojaaDoorP5
import Derived.Test.YtedanlmippfojaaDoorP1
import Derived.Test.YtedanlmippfojaaDoorP2
import Derived.Test.YtedanlmippfojaaDoorP4
import Derived.Test.YtedanlmippfojaaDoorP0
import Derived.Laws.AppendOwnNone
import Derived.Test.YtedanlmippfojaaDoorP3
namespace Go.Proofs.YtedanlmippfojaaDoor
open Go.RowKit Go.Shelf
set_option linter.unusedSimpArgs false
set_option linter.unusedVariables false
attribute [local go_sem ↓] Go.wp_at_zero Go.wp_at_succ

/-- Where a letter is put so that it stands at a place. -/
def spotO (l : List Op7) (t : Nat) : Int × Int × Int := if kidsL l ((leftOf l t).1, (leftOf l t).2.1, 1) = [] then ((leftOf l t).1, (leftOf l t).2.1, 1) else ((nextLf l t).1, (nextLf l t).2, 0)
theorem spot_free {l : List Op7} {t : Nat} {a b : Int} {k : Nat} (h : leftOf l t = (a, b, k)) (hk : kidsL l (a, b, 1) = []) : spotO l t = (a, b, 1) := by unfold spotO; rw [h]; simp only; rw [if_pos hk]
theorem spot_next {l : List Op7} {t : Nat} {a b c d : Int} {k : Nat} (h : leftOf l t = (a, b, k)) (hk : kidsL l (a, b, 1) ≠ []) (hn : nextLf l t = (c, d)) : spotO l t = (c, d, 0) := by unfold spotO; rw [h]; simp only; rw [if_neg hk, hn]
/-- The box of a spot that is to be answered, still nothing. -/
structure SB (w W : World) : Prop where
  box : W.heap[w.heap.size + 1]? = some (.cells #[.int .i64 0, .int .i64 0, .int .i64 0] 132 (0, 0))
  tre : ∃ u, W.heap[w.heap.size]? = some (.cells u 107 (0, 0))
  bel : Below w.heap.size w W

theorem set3b {W : World} {b : Nat} {T : TypeId} {u v x u' v' x' : Value} (h : W.heap[b]? = some (.cells #[u, v, x] T (0, 0))) : (((W.setCell ⟨b, 0, none⟩ u').setCell ⟨b, 1, none⟩ v').setCell ⟨b, 2, none⟩ x').heap[b]? = some (.cells #[u', v', x'] T (0, 0)) := by
  simp only [World.setCell, Array.getElem?_modify, if_true, h, Option.map_some]
  rfl
/-- What stands ahead of a place is small. -/
theorem left_wf {l : List Op7} (h : opsB l = true) {t : Nat} (ht : t ≤ (shownI (lvs l)).length) : wf64 (leftOf l t).1 ∧ wf64 (leftOf l t).2.1 := by
  cases t with
  | zero => rw [leftOf_zero]; exact ⟨wf_small (n := 0) (by omega), wf_small (n := 0) (by omega)⟩
  | succ k =>
    obtain ⟨j, x, h1, h2, h3⟩ := shown_leaf (l := l) (k := k) (by omega)
    rw [leftOf_succ h1 h2]
    obtain ⟨p, hp, pa, pb⟩ := lvs_at h2
    have := okO_id (List.all_eq_true.1 (opsParts h).1 p (all_op h (List.mem_of_getElem? hp)))
    simp only
    rw [← pa, ← pb]
    exact ⟨wf_small (by omega), wf_small (by omega)⟩

set_option maxRecDepth 100000 in
set_option maxHeartbeats 2000000 in
theorem spotFor_any (l : List Op7) (hops : opsB l = true) (hn : l.length ≤ 1048576) (w0 : World) (b1 b2 b3 base : Nat) (hT : TreeAt w0 b1 b2 b3 base l) (t : Int) (hwf : wf64 t) (x : Addr) (w : World) (hW : Below w0.heap.size w0 w)
    (he : w.cell? ⟨0, 0, none⟩ = some (.iface 203 (.pointer (some x)))) (h0 : 0 < w.heap.size) :
    Calls Tryd.prog 110 #[.agg #[.map (some b1), .map (some b2), .map (some b3)], .int .i64 t] w fun e w' =>
      ((inB t 0 (shownI (lvs l)).length = true ∧ e = .returned (.tuple #[.agg #[.int .i64 (spotO l t.toNat).1, .int .i64 (spotO l t.toNat).2.1, .int .i64 (spotO l t.toNat).2.2], .nilIface])) ∨ (inB t 0 (shownI (lvs l)).length = false ∧ e = .returned (.tuple #[.agg #[.int .i64 0, .int .i64 0, .int .i64 0], .iface 203 (.pointer (some x))]))) ∧ Below w.heap.size w w' := by
  have HW := hideIt hW
  have HTT := hideIt hT
  have HO := hideIt hops
  clear hW hT hops
  have A2 : Hid (∃ W2, ((w.alloc (.cells #[.map (some b1), .map (some b2), .map (some b3)] 107)).alloc (.cells #[.int .i64 0, .int .i64 0, .int .i64 0] 132)) = W2 ∧ W2.heap[w.heap.size]? = some (.cells #[.map (some b1), .map (some b2), .map (some b3)] 107 (0, 0)) ∧ W2.heap[w.heap.size + 1]? = some (.cells #[.int .i64 0, .int .i64 0, .int .i64 0] 132 (0, 0)) ∧ Below w.heap.size w W2) := by
    refine ⟨_, rfl, (Below.heap_alloc _ _ _ (by simp)).trans (World.alloc_heap_new _ _), ?_, ((Below.refl _ _).alloc (Nat.le_refl _) _).alloc (by simp) _⟩
    have h := World.alloc_heap_new (w.alloc (.cells #[.map (some b1), .map (some b2), .map (some b3)] 107)) (.cells #[.int .i64 0, .int .i64 0, .int .i64 0] 132)
    rw [World.size_alloc] at h
    exact h
  go_enter Tryd.func110, Tryd.ntmps110
  go_wp2_with fail
  obtain ⟨W2, hW2, htr, hbx, hb2⟩ := A2.out
  rw [hW2]
  have HTR := hideIt htr
  have HBX := hideIt hbx
  have HB2 := hideIt hb2
  clear hW2 A2 hbx hb2 htr
  refine (signAhead_any l HO.out hn w0 b1 b2 b3 base HTT.out t hwf x _ (HW.out.trans (HB2.out.mono HW.out.size)) (errB HB2.out h0 he) (posB HB2.out h0)).mono ?_
  rintro e w3 ⟨(⟨hk, rfl⟩ | ⟨hk, rfl⟩), hb3⟩
  all_goals
    have HK := hideIt hk
    have hbx3 := blk_below HBX.out hb3
    have htr3 := blk_below HTR.out hb3
    have HB3 := hideIt (Bstep HB2.out hb3)
    have HBX3 := hideIt hbx3
    have i0 := (blk_cell hbx3 0).trans rfl
    have i1 := (blk_cell hbx3 1).trans rfl
    have i2 := (blk_cell hbx3 2).trans rfl
    have t0 := (blk_cell htr3 0).trans rfl
    have t1 := (blk_cell htr3 1).trans rfl
    have t2 := (blk_cell htr3 2).trans rfl
    have fi : ∀ j, w3.frozen? ⟨w.heap.size + 1, j, none⟩ = false := fun j => by simp [World.frozen?, hbx3]
    have hlt : w.heap.size + 1 < w3.heap.size := (Array.getElem?_eq_some_iff.1 hbx3).1
    have hlt0 : w.heap.size < w3.heap.size := by omega
    clear hb3 hbx3 htr3 HBX HB2 HTR hk
  · obtain ⟨la, lb, lk, hlf⟩ : ∃ la lb lk, leftOf l t.toNat = (la, lb, lk) := ⟨_, _, _, rfl⟩
    have hkt : 0 ≤ t ∧ t ≤ (shownI (lvs l)).length := by have h := HK.out; simp [inB] at h; exact h
    have hwab := left_wf HO.out (t := t.toNat) (by omega)
    have HBE : Hid (kidsL l (la, lb, 1) ≠ [] → ¬ noneBehind (lvs l) la lb) := fun h => by
      have := behind_is HO.out (t := t.toNat) (by omega)
      rw [hlf] at this
      exact this h
    have HNX : Hid (∀ p y q, p ++ y :: q = lvs l → lastId p = (la, lb) → nextLf l t.toNat = (y.a, y.b)) := fun p y q e e2 => nextLf_behind HO.out (by omega) e (by rw [hlf]; exact e2)
    have HSF : Hid (kidsL l (la, lb, 1) = [] → spotO l t.toNat = (la, lb, 1)) := fun h => spot_free hlf h
    have HSN : Hid (kidsL l (la, lb, 1) ≠ [] → ∀ c d, nextLf l t.toNat = (c, d) → spotO l t.toNat = (c, d, 0)) := fun h c d h2 => spot_next hlf h h2
    rw [hlf] at hwab ⊢
    obtain ⟨ks, hks⟩ := key_spot hwab.1 hwab.2 (s := 1) (wf_small (by omega))
    have HKS := hideIt hks
    clear hlf hkt hwab hks
    dsimp only
    have HTW := hideIt (HTT.out.below (HW.out.trans ((HB3.out.mono HW.out.size))))
    have HBa : Hid (Below w3.heap.size w3 ((w3.alloc (.cells #[.int .i64 la, .int .i64 lb] 27)).alloc (.cells #[.int .i64 la, .int .i64 lb, .int .i64 1] 132))) := ((Below.refl _ _).alloc (Nat.le_refl _) _).alloc (by simp) _
    obtain ⟨f, hf⟩ := (HTW.out.below HBa.out).2.1
    have HF := hideIt hf
    obtain ⟨v0, hv0⟩ : ∃ v0, (f (la, lb, 1)).getD (.slice none 0 0) = v0 := ⟨_, rfl⟩
    have hv0o := hf.at (la, lb, 1)
    rw [hv0] at hv0o
    have HV0 := hideIt hv0
    have HOW := hideIt hv0o
    clear hf hv0 hv0o HTW
    have hKl : (kidsL l (la, lb, 1)).length ≤ 1048576 := Nat.le_trans (kids_le l _) hn
    rcases row_cases HOW.out with ⟨hlen, p0, c0, hv⟩ | ⟨hlen, G, cap0, hv, hcap0, hGl, hcell⟩
    all_goals rw [hv] at HV0
    · have HSP := hideIt (HSF.out (List.length_eq_zero_iff.1 hlen))
      clear hv HOW HSF HSN HBE HNX hlen
      go_wp2_with (first
        | (at_lookup; refine wpList_look0 (t := 104) (e := 130) rfl _ _ rfl keyedSpot Tryd.underlying104 (.slice none 0 0) (zeroSlice _) encSpot_inj rfl HF.out.1 (la, lb, 1) rfl ks HKS.out _ HV0.out ?_))
      have hz := set3b (u' := .int .i64 la) (v' := .int .i64 lb) (x' := .int .i64 1) HBX3.out
      have hbz : Below w.heap.size w (((w3.setCell ⟨w.heap.size + 1, 0, none⟩ (.int .i64 la)).setCell ⟨w.heap.size + 1, 1, none⟩ (.int .i64 lb)).setCell ⟨w.heap.size + 1, 2, none⟩ (.int .i64 1)) := ((HB3.out.setCell (p := ⟨w.heap.size + 1, 0, none⟩) (by show w.heap.size ≤ w.heap.size + 1; omega) _).setCell (p := ⟨w.heap.size + 1, 1, none⟩) (by show w.heap.size ≤ w.heap.size + 1; omega) _).setCell (p := ⟨w.heap.size + 1, 2, none⟩) (by show w.heap.size ≤ w.heap.size + 1; omega) _
      generalize ((w3.setCell ⟨w.heap.size + 1, 0, none⟩ (.int .i64 la)).setCell ⟨w.heap.size + 1, 1, none⟩ (.int .i64 lb)).setCell ⟨w.heap.size + 1, 2, none⟩ (.int .i64 1) = WZ at *
      have HBZ := ((Below.refl WZ.heap.size WZ).alloc (Nat.le_refl _) (.cells #[.int .i64 la, .int .i64 lb] 27)).alloc (by simp) (.cells #[.int .i64 la, .int .i64 lb, .int .i64 1] 132)
      have y := blk_below hz HBZ
      have r0 := (blk_cell y 0).trans rfl
      have r1 := (blk_cell y 1).trans rfl
      have r2 := (blk_cell y 2).trans rfl
      exact bodyPost_ret (v := .tuple #[.agg #[.int .i64 la, .int .i64 lb, .int .i64 1], .nilIface]) (by simp [results, Tryd.results110, go_sem, r0, r1, r2]) rfl ⟨.inl ⟨HK.out, by rw [HSP.out]⟩, Bstep hbz HBZ⟩
    · have HNE : Hid (kidsL l (la, lb, 1) ≠ []) := fun h => by rw [h] at hlen; simp at hlen
      generalize (kidsL l (la, lb, 1)).length = kn at *
      clear hv HOW HSF hcell
      go_wp2_with (first
        | (at_lookup; refine wpList_look0 (t := 104) (e := 130) rfl _ _ rfl keyedSpot Tryd.underlying104 (.slice none 0 0) (zeroSlice _) encSpot_inj rfl HF.out.1 (la, lb, 1) rfl ks HKS.out _ HV0.out ?_))
      have hfb : ((w3.alloc (.cells #[.int .i64 la, .int .i64 lb] 27)).alloc (.cells #[.int .i64 la, .int .i64 lb, .int .i64 1] 132)).heap[w3.heap.size + 1]? = some (.cells #[.int .i64 la, .int .i64 lb, .int .i64 1] 132 (0, 0)) := by
        have h := World.alloc_heap_new (w3.alloc (.cells #[.int .i64 la, .int .i64 lb] 27)) (.cells #[.int .i64 la, .int .i64 lb, .int .i64 1] 132)
        rw [World.size_alloc] at h
        exact h
      have HFB := hideIt hfb
      clear hfb
      refine (callsIn_wide.1 (leafBehind_in l HO.out hn w0 b1 b2 b3 base HTT.out 3 (Nat.le_refl _) la lb _ ((HW.out.trans (HB3.out.mono HW.out.size)).trans (HBa.out.mono (Nat.le_trans HW.out.size HB3.out.size))) (by simp))).mono ?_
      rintro e w5 ⟨(⟨pp, y, qq, e1, e2, rfl⟩ | ⟨hno, rfl⟩), hb5⟩
      · have HSP := hideIt (HSN.out HNE.out _ _ (HNX.out pp y qq e1 e2))
        have HBX5 := hideIt (blk_below (blk_below HBX3.out HBa.out) hb5)
        have HFB5 := hideIt (blk_below HFB.out hb5)
        have HB5 := hideIt (Bstep HB3.out (Bstep HBa.out hb5))
        have hlt5 : w3.heap.size + 1 < w5.heap.size := (Array.getElem?_eq_some_iff.1 HFB5.out).1
        have hlt6 : w.heap.size + 1 < w5.heap.size := by omega
        clear HFB HBX3 hb5 e1 e2 HSN HNX HBE HF HBa HB3 i0 i1 i2 t0 t1 t2 fi hcap0 hGl
        generalize y.a = ya at *
        generalize y.b = yb at *
        have i0 := (blk_cell HBX5.out 0).trans rfl
        have i1 := (blk_cell HBX5.out 1).trans rfl
        have i2 := (blk_cell HBX5.out 2).trans rfl
        have f0 := (blk_cell HFB5.out 0).trans rfl
        have f1 := (blk_cell HFB5.out 1).trans rfl
        have f2 := (blk_cell HFB5.out 2).trans rfl
        have fi : ∀ j, w5.frozen? ⟨w.heap.size + 1, j, none⟩ = false := fun j => by simp [World.frozen?, HBX5.out]
        have ff : ∀ j, w5.frozen? ⟨w3.heap.size + 1, j, none⟩ = false := fun j => by simp [World.frozen?, HFB5.out]
        have hne : ¬ w.heap.size + 1 = w3.heap.size + 1 := by omega
        have hne' : ¬ w3.heap.size + 1 = w.heap.size + 1 := by omega
        have hBf : w.heap.size ≤ w3.heap.size + 1 := by omega
        have hS1' : w.heap.size ≤ w.heap.size + 1 := by omega
        generalize w3.heap.size + 1 = Bf at *
        generalize hS1 : w.heap.size + 1 = S1 at *
        clear hlt hlt0
        go_wp2
        have hz0 := blk_set1 (c := Bf) (i := 2) (u := .int .i64 0) (blk_set1 (c := Bf) (i := 1) (u := .int .i64 yb) (blk_set1 (c := Bf) (i := 0) (u := .int .i64 ya) HBX5.out hne) hne) hne
        have hz := set3b (u' := .int .i64 ya) (v' := .int .i64 yb) (x' := .int .i64 0) hz0
        have hbz : Below w.heap.size w ((((((w5.setCell ⟨Bf, 0, none⟩ (.int .i64 ya)).setCell ⟨Bf, 1, none⟩ (.int .i64 yb)).setCell ⟨Bf, 2, none⟩ (.int .i64 0)).setCell ⟨S1, 0, none⟩ (.int .i64 ya)).setCell ⟨S1, 1, none⟩ (.int .i64 yb)).setCell ⟨S1, 2, none⟩ (.int .i64 0)) :=
          (((((HB5.out.setCell (p := ⟨Bf, 0, none⟩) hBf _).setCell (p := ⟨Bf, 1, none⟩) hBf _).setCell (p := ⟨Bf, 2, none⟩) hBf _).setCell (p := ⟨S1, 0, none⟩) hS1' _).setCell (p := ⟨S1, 1, none⟩) hS1' _).setCell (p := ⟨S1, 2, none⟩) hS1' _
        have r0 := (blk_cell hz 0).trans rfl
        have r1 := (blk_cell hz 1).trans rfl
        have r2 := (blk_cell hz 2).trans rfl
        exact bodyPost_ret (v := .tuple #[.agg #[.int .i64 ya, .int .i64 yb, .int .i64 0], .nilIface]) (by simp only [results, Tryd.results110]; simp [go_sem, r0, r1, r2]) rfl ⟨.inl ⟨HK.out, by rw [HSP.out]⟩, hbz⟩
      · exact absurd hno (HBE.out HNE.out)
  · have HNO := hideIt HK.out
    go_wp2
    have hz := set3b (u' := .int .i64 0) (v' := .int .i64 0) (x' := .int .i64 0) HBX3.out
    have hbz : Below w.heap.size w (((w3.setCell ⟨w.heap.size + 1, 0, none⟩ (.int .i64 0)).setCell ⟨w.heap.size + 1, 1, none⟩ (.int .i64 0)).setCell ⟨w.heap.size + 1, 2, none⟩ (.int .i64 0)) := ((HB3.out.setCell (p := ⟨w.heap.size + 1, 0, none⟩) (by show w.heap.size ≤ w.heap.size + 1; omega) _).setCell (p := ⟨w.heap.size + 1, 1, none⟩) (by show w.heap.size ≤ w.heap.size + 1; omega) _).setCell (p := ⟨w.heap.size + 1, 2, none⟩) (by show w.heap.size ≤ w.heap.size + 1; omega) _
    generalize ((w3.setCell ⟨w.heap.size + 1, 0, none⟩ (.int .i64 0)).setCell ⟨w.heap.size + 1, 1, none⟩ (.int .i64 0)).setCell ⟨w.heap.size + 1, 2, none⟩ (.int .i64 0) = WZ at *
    have HBZ := (Below.refl WZ.heap.size WZ).alloc (Nat.le_refl _) (.cells #[.int .i64 0, .int .i64 0] 27)
    have y := blk_below hz HBZ
    have r0 := (blk_cell y 0).trans rfl
    have r1 := (blk_cell y 1).trans rfl
    have r2 := (blk_cell y 2).trans rfl
    exact bodyPost_ret (v := .tuple #[.agg #[.int .i64 0, .int .i64 0, .int .i64 0], .iface 203 (.pointer (some x))]) (by simp [results, Tryd.results110, go_sem, r0, r1, r2]) rfl ⟨.inr ⟨HNO.out, rfl⟩, Bstep hbz HBZ⟩
end Go.Proofs.YtedanlmippfojaaDoor

namespace Go.Proofs.YtedanlmippfojaaDoor
open Go.RowKit Go.Shelf
set_option linter.unusedSimpArgs false
set_option linter.unusedVariables false
attribute [local go_sem ↓] Go.wp_at_zero Go.wp_at_succ build_op0 build_opTake build_opPut

theorem putO_spot (l : List Op7) (r sg : Int) (t : Nat) : putO l r t sg = ⟨r, cnt l r + 1, 1, (spotO l t).1, (spotO l t).2.1, (spotO l t).2.2, sg⟩ := by
  unfold putO spotO
  split <;> rfl
theorem put_form {l : List Op7} {r sg : Int} {t : Nat} (h : mayMore l r = true) (ht : t ≤ (shownI (lvs l)).length) : opB r (cnt l r + 1) 1 (spotO l t).1 (spotO l t).2.1 (spotO l t).2.2 sg = inB sg 97 122 := by
  by_cases hsg : 97 ≤ sg ∧ sg ≤ 122
  · have hc := (put_can (sg := sg) h hsg ht).1.form
    rw [putO_spot] at hc
    have h2 : inB sg 97 122 = true := by simp [inB, hsg]
    rw [h2]
    exact hc
  · have h2 : inB sg 97 122 = false := by simp only [inB]; exact decide_eq_false hsg
    rw [h2]
    cases hb : opB r (cnt l r + 1) 1 (spotO l t).1 (spotO l t).2.1 (spotO l t).2.2 sg
    · rfl
    · rw [opB_true] at hb
      omega

theorem st_tree (w : World) (o : Obj) (a b c : Option Nat) : (Instr.storeAt 107 (.pointer (some ⟨w.heap.size, 0, none⟩)) (.agg #[.map a, .map b, .map c])).run Tryd.prog ((w.alloc (.cells #[.map none, .map none, .map none] 107)).alloc o) = .ok () ((w.alloc (.cells #[.map a, .map b, .map c] 107)).alloc o) := by
  simp [go_sem]
theorem st_id (w : World) (o : Obj) (a b : Int) : (Instr.storeAt 27 (.pointer (some ⟨w.heap.size + 1, 0, none⟩)) (.agg #[.int .i64 a, .int .i64 b])).run Tryd.prog ((w.alloc o).alloc (.cells #[.int .i64 0, .int .i64 0] 27)) = .ok () ((w.alloc o).alloc (.cells #[.int .i64 a, .int .i64 b] 27)) := by
  simp [go_sem]
theorem st_spot (w : World) (a b c : Int) : (Instr.storeAt 132 (.pointer (some ⟨w.heap.size, 0, none⟩)) (.agg #[.int .i64 a, .int .i64 b, .int .i64 c])).run Tryd.prog (w.alloc (.cells #[.int .i64 0, .int .i64 0, .int .i64 0] 132)) = .ok () (w.alloc (.cells #[.int .i64 a, .int .i64 b, .int .i64 c] 132)) := by
  simp [go_sem]
theorem st_op (w : World) (o : Obj) (a1 a2 a3 a4 a5 a6 a7 : Int) : (Instr.storeAt 29 (.pointer (some ⟨w.heap.size + 1, 0, none⟩)) (.agg #[.int .i64 a1, .int .i64 a2, .int .i64 a3, .int .i64 a4, .int .i64 a5, .int .i64 a6, .int .i64 a7])).run Tryd.prog ((w.alloc o).alloc (.cells #[.int .i64 0, .int .i64 0, .int .i64 0, .int .i64 0, .int .i64 0, .int .i64 0, .int .i64 0] 29)) = .ok () ((w.alloc o).alloc (.cells #[.int .i64 a1, .int .i64 a2, .int .i64 a3, .int .i64 a4, .int .i64 a5, .int .i64 a6, .int .i64 a7] 29)) := by
  have h := store_op_new (w.alloc o) a1 a2 a3 a4 a5 a6 a7
  rw [World.size_alloc] at h
  exact h

attribute [-go_sem] Instr.storeAt
attribute [local go_sem ↓] store_op_new st_tree st_id st_spot st_op
set_option maxRecDepth 100000 in
set_option maxHeartbeats 2000000 in
theorem puttingAt_any (l : List Op7) (g cap : Nat) (r t sg : Int) (hwf : wf64 t) (x : Addr) (w : World) (hl : OpsAt w g l) (hn : l.length ≤ 1048576) (hcap : l.length ≤ cap)
    (he : w.cell? ⟨0, 0, none⟩ = some (.iface 203 (.pointer (some x)))) (h0 : 0 < w.heap.size) :
    Calls Tryd.prog 67 #[.slice (some ⟨g, 0, none⟩) l.length cap, .int .i64 r, .int .i64 t, .int .i64 sg] w fun e w' =>
      ((mayPut l r t sg = false ∧ e = .returned (.tuple #[.agg #[.int .i64 0, .int .i64 0, .int .i64 0, .int .i64 0, .int .i64 0, .int .i64 0, .int .i64 0], .iface 203 (.pointer (some x))])) ∨
       (mayPut l r t sg = true ∧ e = .returned (.tuple #[opV (putO l r t.toNat sg), .nilIface]))) ∧ Below w.heap.size w w' := by
  have HL := hideIt hl
  have hgw := hl.1
  clear hl
  go_enter Tryd.func67, Tryd.ntmps67
  go_wp2_with fail
  have HRB := hideIt (RB.start w)
  refine (treeNext_any l g cap r x _ (HL.out.below HRB.out.bel hgw) hn hcap (errB HRB.out.bel h0 he) (posB HRB.out.bel h0)).mono ?_
  rintro e w1 ⟨(⟨hm, rfl⟩ | ⟨hm, b1, b2, b3, base, rfl, hT⟩), hb1⟩
  all_goals
    have HM := hideIt hm
    have HR1 := hideIt (HRB.out.below hb1)
    have hwl := HR1.out.lt
    clear hm hb1 HRB
  · have HA := hideIt (HR1.out.below (((Below.refl _ _).alloc (Nat.le_refl _) (.cells #[.map none, .map none, .map none] 107)).alloc (by simp) (.cells #[.int .i64 0, .int .i64 0] 27)))
    go_wp2_with (first | (refine wpList_store_row rfl 29 _ _ rfl w.heap.size _ rfl rfl 29 _ HA.out.box (by kernel_rfl) rfl (all7 _ _ _ _ _ _ _) ?_; have HST := hideIt (HA.out.stored 0 0 0 0 0 0 0); generalize World.setRow _ _ _ = W9 at *))
    obtain ⟨hb9, hbel9⟩ := HST.out
    have r0 := (blkCell hb9 0).trans rfl
    have r1 := (blkCell hb9 1).trans rfl
    have r2 := (blkCell hb9 2).trans rfl
    have r3 := (blkCell hb9 3).trans rfl
    have r4 := (blkCell hb9 4).trans rfl
    have r5 := (blkCell hb9 5).trans rfl
    have r6 := (blkCell hb9 6).trans rfl
    exact bodyPost_ret (v := .tuple #[.agg #[.int .i64 0, .int .i64 0, .int .i64 0, .int .i64 0, .int .i64 0, .int .i64 0, .int .i64 0], .iface 203 (.pointer (some x))]) (by simp [results, Tryd.results67, go_sem, r0, r1, r2, r3, r4, r5, r6]) rfl ⟨.inl ⟨by simp [mayPut, HM.out], rfl⟩, hbel9⟩
  · have HTT := hideIt hT
    have HOI : Hid (opsB l = true) := by
      have h := HM.out
      unfold mayMore at h
      simp only [Bool.and_eq_true] at h
      exact h.1.1
    clear hT
    generalize hcn : cnt l r + 1 = cn
    have HCN := hideIt hcn
    clear hcn
    go_wp2_with fail
    have HBa : Hid (Below w1.heap.size w1 ((w1.alloc (.cells #[.map (some b1), .map (some b2), .map (some b3)] 107)).alloc (.cells #[.int .i64 r, .int .i64 cn] 27))) := ((Below.refl _ _).alloc (Nat.le_refl _) _).alloc (by simp) _
    have HIa : Hid (((w1.alloc (.cells #[.map (some b1), .map (some b2), .map (some b3)] 107)).alloc (.cells #[.int .i64 r, .int .i64 cn] 27)).heap[w1.heap.size + 1]? = some (.cells #[.int .i64 r, .int .i64 cn] 27 (0, 0))) := by
      have h := World.alloc_heap_new (w1.alloc (.cells #[.map (some b1), .map (some b2), .map (some b3)] 107)) (.cells #[.int .i64 r, .int .i64 cn] 27)
      rw [World.size_alloc] at h
      exact h
    have HR2 := hideIt (HR1.out.below HBa.out)
    refine (spotFor_any l HOI.out hn w1 b1 b2 b3 base HTT.out t hwf x _ HBa.out (errB HR2.out.bel h0 he) (posB HR2.out.bel h0)).mono ?_
    rintro e w3 ⟨(⟨hk, rfl⟩ | ⟨hk, rfl⟩), hb3⟩
    all_goals
      have HR3 := hideIt (HR2.out.below hb3)
      have HI3 := hideIt (blk_below HIa.out hb3)
      have hwl3 := HR3.out.lt
      have hil3 := (Array.getElem?_eq_some_iff.1 HI3.out).1
      have hdd : w1.heap.size + 1 ≠ w.heap.size := by omega
      have HK := hideIt hk
      clear hb3 HR2 HIa HBa hk
      generalize w1.heap.size + 1 = Bi at *
    · have htl : t.toNat ≤ (shownI (lvs l)).length := by have h := HK.out; simp [inB] at h; omega
      have HFO : Hid (opB r cn 1 (spotO l t.toNat).1 (spotO l t.toNat).2.1 (spotO l t.toNat).2.2 sg = inB sg 97 122) := by rw [← HCN.out]; exact put_form HM.out htl
      have HPO : Hid (putO l r t.toNat sg = ⟨r, cn, 1, (spotO l t.toNat).1, (spotO l t.toNat).2.1, (spotO l t.toNat).2.2, sg⟩) := by rw [← HCN.out]; exact putO_spot l r sg t.toNat
      clear htl
      generalize spotO l t.toNat = sp at *
      obtain ⟨ya, yb, ys⟩ := sp
      dsimp only at *
      have d0 := (blk_cell HI3.out 0).trans rfl
      have d1 := (blk_cell HI3.out 1).trans rfl
      go_wp2_with fail
      have hb2 : Below w3.heap.size w3 ((w3.alloc (.cells #[.int .i64 ya, .int .i64 yb, .int .i64 ys] 132)).alloc (.cells #[.int .i64 r, .int .i64 cn, .int .i64 1, .int .i64 ya, .int .i64 yb, .int .i64 ys, .int .i64 sg] 29)) := ((Below.refl _ _).alloc (Nat.le_refl _) _).alloc (by simp) _
      have hob : ((w3.alloc (.cells #[.int .i64 ya, .int .i64 yb, .int .i64 ys] 132)).alloc (.cells #[.int .i64 r, .int .i64 cn, .int .i64 1, .int .i64 ya, .int .i64 yb, .int .i64 ys, .int .i64 sg] 29)).heap[w3.heap.size + 1]? = some (.cells #[.int .i64 r, .int .i64 cn, .int .i64 1, .int .i64 ya, .int .i64 yb, .int .i64 ys, .int .i64 sg] 29 (0, 0)) := by
        have h := World.alloc_heap_new (w3.alloc (.cells #[.int .i64 ya, .int .i64 yb, .int .i64 ys] 132)) (.cells #[.int .i64 r, .int .i64 cn, .int .i64 1, .int .i64 ya, .int .i64 yb, .int .i64 ys, .int .i64 sg] 29)
        rw [World.size_alloc] at h
        exact h
      have HR4 := hideIt (HR3.out.below hb2)
      have hnb : w3.heap.size + 1 ≠ w.heap.size := by omega
      clear hb2 d0 d1 HR3 HI3
      have HOB := hideIt hob
      clear hob
      generalize ((w3.alloc (.cells #[.int .i64 ya, .int .i64 yb, .int .i64 ys] 132)).alloc (.cells #[.int .i64 r, .int .i64 cn, .int .i64 1, .int .i64 ya, .int .i64 yb, .int .i64 ys, .int .i64 sg] 29)) = W4 at *
      generalize w3.heap.size + 1 = Bo at *
      refine (implOp_any r cn 1 ya yb ys sg x W4 (errB HR4.out.bel h0 he) (posB HR4.out.bel h0)).mono ?_
      rintro e w5 ⟨rfl, hb5⟩
      rw [HFO.out]
      have HR5 := hideIt (HR4.out.below hb5)
      have HO5 := hideIt (blk_below HOB.out hb5)
      have hlo5 := (Array.getElem?_eq_some_iff.1 HO5.out).1
      have o0 := (blk_cell HO5.out 0).trans rfl
      have o1 := (blk_cell HO5.out 1).trans rfl
      have o2 := (blk_cell HO5.out 2).trans rfl
      have o3 := (blk_cell HO5.out 3).trans rfl
      have o4 := (blk_cell HO5.out 4).trans rfl
      have o5 := (blk_cell HO5.out 5).trans rfl
      have o6 := (blk_cell HO5.out 6).trans rfl
      clear hb5 HR4 HOB
      cases hsg : inB sg 97 122
      · have HNO : Hid (mayPut l r t sg = false) := by show mayPut l r t sg = false; unfold mayPut; rw [hsg]; simp
        clear hsg o0 o1 o2 o3 o4 o5 o6
        have herr5 := errB HR5.out.bel h0 he
        have nz : ¬ 0 = w.heap.size := by omega
        go_wp2_with fail
        have K1 : Hid (w5.drew.cell? ⟨0, 0, none⟩ = some (.iface 203 (.pointer (some x)))) := herr5
        have K9 : Hid ((w5.drew.setRow w.heap.size #[.int .i64 0, .int .i64 0, .int .i64 0, .int .i64 0, .int .i64 0, .int .i64 0, .int .i64 0]).cell? ⟨0, 0, none⟩ = some (.iface 203 (.pointer (some x)))) := setRow_cell (W := w5.drew) nz herr5
        have ks1 : (Instr.storeAt 29 (.pointer (some ⟨w.heap.size, 0, none⟩)) (.agg #[.int .i64 0, .int .i64 0, .int .i64 0, .int .i64 0, .int .i64 0, .int .i64 0, .int .i64 0])).run Tryd.prog w5.drew = .ok () (w5.drew.setRow w.heap.size #[.int .i64 0, .int .i64 0, .int .i64 0, .int .i64 0, .int .i64 0, .int .i64 0, .int .i64 0]) := store_op w5.drew w.heap.size _ HR5.out.box rfl 0 0 0 0 0 0 0
        have HST := hideIt ((HR5.out.below ((Below.refl _ _).drew)).stored 0 0 0 0 0 0 0)
        clear herr5
        go_region_held3 (fun w' => w'.cell? ⟨0, 0, none⟩ = some (.iface 203 (.pointer (some x))))
          (first | with_reducible exact K1.out | with_reducible exact K9.out)
          (fail)
        rename_i hHH
        clear hHH K9 K1 ks1
        generalize World.setRow _ _ _ = W9 at *
        go_wp2
        obtain ⟨hb9, hbel9⟩ := HST.out
        have r0 := (blkCell hb9 0).trans rfl
        have r1 := (blkCell hb9 1).trans rfl
        have r2 := (blkCell hb9 2).trans rfl
        have r3 := (blkCell hb9 3).trans rfl
        have r4 := (blkCell hb9 4).trans rfl
        have r5 := (blkCell hb9 5).trans rfl
        have r6 := (blkCell hb9 6).trans rfl
        exact bodyPost_ret (v := .tuple #[.agg #[.int .i64 0, .int .i64 0, .int .i64 0, .int .i64 0, .int .i64 0, .int .i64 0, .int .i64 0], .iface 203 (.pointer (some x))]) (by simp [results, Tryd.results67, go_sem, r0, r1, r2, r3, r4, r5, r6]) rfl ⟨.inl ⟨HNO.out, rfl⟩, hbel9⟩
      · have HYES : Hid (mayPut l r t sg = true) := by show mayPut l r t sg = true; unfold mayPut; rw [HM.out, hsg, HK.out]; rfl
        clear hsg
        have HA := HR5
        go_wp2_with (first | (refine wpList_store_row rfl 29 _ _ rfl w.heap.size _ rfl rfl 29 _ HA.out.box (by kernel_rfl) rfl (all7 _ _ _ _ _ _ _) ?_; have HST := hideIt (HA.out.stored r cn 1 ya yb ys sg); generalize World.setRow _ _ _ = W9 at *))
        obtain ⟨hb9, hbel9⟩ := HST.out
        have r0 := (blkCell hb9 0).trans rfl
        have r1 := (blkCell hb9 1).trans rfl
        have r2 := (blkCell hb9 2).trans rfl
        have r3 := (blkCell hb9 3).trans rfl
        have r4 := (blkCell hb9 4).trans rfl
        have r5 := (blkCell hb9 5).trans rfl
        have r6 := (blkCell hb9 6).trans rfl
        exact bodyPost_ret (v := .tuple #[.agg #[.int .i64 r, .int .i64 cn, .int .i64 1, .int .i64 ya, .int .i64 yb, .int .i64 ys, .int .i64 sg], .nilIface]) (by simp [results, Tryd.results67, go_sem, r0, r1, r2, r3, r4, r5, r6]) rfl ⟨.inr ⟨HYES.out, by rw [HPO.out]; rfl⟩, hbel9⟩
    · have HNO : Hid (mayPut l r t sg = false) := by show mayPut l r t sg = false; unfold mayPut; rw [HK.out]; simp
      have HA := hideIt (HR3.out.below ((Below.refl _ _).alloc (Nat.le_refl _) (.cells #[.int .i64 0, .int .i64 0, .int .i64 0] 132)))
      go_wp2_with (first | (refine wpList_store_row rfl 29 _ _ rfl w.heap.size _ rfl rfl 29 _ HA.out.box (by kernel_rfl) rfl (all7 _ _ _ _ _ _ _) ?_; have HST := hideIt (HA.out.stored 0 0 0 0 0 0 0); generalize World.setRow _ _ _ = W9 at *))
      obtain ⟨hb9, hbel9⟩ := HST.out
      have r0 := (blkCell hb9 0).trans rfl
      have r1 := (blkCell hb9 1).trans rfl
      have r2 := (blkCell hb9 2).trans rfl
      have r3 := (blkCell hb9 3).trans rfl
      have r4 := (blkCell hb9 4).trans rfl
      have r5 := (blkCell hb9 5).trans rfl
      have r6 := (blkCell hb9 6).trans rfl
      exact bodyPost_ret (v := .tuple #[.agg #[.int .i64 0, .int .i64 0, .int .i64 0, .int .i64 0, .int .i64 0, .int .i64 0, .int .i64 0], .iface 203 (.pointer (some x))]) (by simp [results, Tryd.results67, go_sem, r0, r1, r2, r3, r4, r5, r6]) rfl ⟨.inl ⟨HNO.out, rfl⟩, hbel9⟩
end Go.Proofs.YtedanlmippfojaaDoor

namespace Go.Proofs.YtedanlmippfojaaDoor
open Go.RowKit Go.Shelf
open Go.Maps (Keyed)
set_option linter.unusedSimpArgs false
set_option linter.unusedVariables false
attribute [local go_sem ↓] Go.wp_at_zero Go.wp_at_succ build_op0 build_opTake build_opPut
attribute [-go_sem] Instr.storeAt
attribute [local go_sem ↓] store_op_new st_tree st_id st_spot st_op

set_option maxRecDepth 100000 in
set_option maxHeartbeats 2000000 in
theorem puttingAt_nil (l : List Op7) (hL0 : l = []) (r t sg : Int) (hwf : wf64 t) (x : Addr) (w : World)
    (he : w.cell? ⟨0, 0, none⟩ = some (.iface 203 (.pointer (some x)))) (h0 : 0 < w.heap.size) :
    Calls Tryd.prog 67 #[.slice none 0 0, .int .i64 r, .int .i64 t, .int .i64 sg] w fun e w' =>
      ((mayPut l r t sg = false ∧ e = .returned (.tuple #[.agg #[.int .i64 0, .int .i64 0, .int .i64 0, .int .i64 0, .int .i64 0, .int .i64 0, .int .i64 0], .iface 203 (.pointer (some x))])) ∨
       (mayPut l r t sg = true ∧ e = .returned (.tuple #[opV (putO l r t.toNat sg), .nilIface]))) ∧ Below w.heap.size w w' := by
  have HN := hideIt hL0
  have hn : l.length ≤ 1048576 := by rw [hL0]; simp
  clear hL0
  go_enter Tryd.func67, Tryd.ntmps67
  go_wp2_with fail
  have HRB := hideIt (RB.start w)
  refine (treeNext_nil l HN.out r x _ (errB HRB.out.bel h0 he) (posB HRB.out.bel h0)).mono ?_
  rintro e w1 ⟨(⟨hm, rfl⟩ | ⟨hm, b1, b2, b3, base, rfl, hT⟩), hb1⟩
  all_goals
    have HM := hideIt hm
    have HR1 := hideIt (HRB.out.below hb1)
    have hwl := HR1.out.lt
    clear hm hb1 HRB
  · have HA := hideIt (HR1.out.below (((Below.refl _ _).alloc (Nat.le_refl _) (.cells #[.map none, .map none, .map none] 107)).alloc (by simp) (.cells #[.int .i64 0, .int .i64 0] 27)))
    go_wp2_with (first | (refine wpList_store_row rfl 29 _ _ rfl w.heap.size _ rfl rfl 29 _ HA.out.box (by kernel_rfl) rfl (all7 _ _ _ _ _ _ _) ?_; have HST := hideIt (HA.out.stored 0 0 0 0 0 0 0); generalize World.setRow _ _ _ = W9 at *))
    obtain ⟨hb9, hbel9⟩ := HST.out
    have r0 := (blkCell hb9 0).trans rfl
    have r1 := (blkCell hb9 1).trans rfl
    have r2 := (blkCell hb9 2).trans rfl
    have r3 := (blkCell hb9 3).trans rfl
    have r4 := (blkCell hb9 4).trans rfl
    have r5 := (blkCell hb9 5).trans rfl
    have r6 := (blkCell hb9 6).trans rfl
    exact bodyPost_ret (v := .tuple #[.agg #[.int .i64 0, .int .i64 0, .int .i64 0, .int .i64 0, .int .i64 0, .int .i64 0, .int .i64 0], .iface 203 (.pointer (some x))]) (by simp [results, Tryd.results67, go_sem, r0, r1, r2, r3, r4, r5, r6]) rfl ⟨.inl ⟨by simp [mayPut, HM.out], rfl⟩, hbel9⟩
  · have HTT := hideIt hT
    have HOI : Hid (opsB l = true) := by
      have h := HM.out
      unfold mayMore at h
      simp only [Bool.and_eq_true] at h
      exact h.1.1
    clear hT
    generalize hcn : cnt l r + 1 = cn
    have HCN := hideIt hcn
    clear hcn
    go_wp2_with fail
    have HBa : Hid (Below w1.heap.size w1 ((w1.alloc (.cells #[.map (some b1), .map (some b2), .map (some b3)] 107)).alloc (.cells #[.int .i64 r, .int .i64 cn] 27))) := ((Below.refl _ _).alloc (Nat.le_refl _) _).alloc (by simp) _
    have HIa : Hid (((w1.alloc (.cells #[.map (some b1), .map (some b2), .map (some b3)] 107)).alloc (.cells #[.int .i64 r, .int .i64 cn] 27)).heap[w1.heap.size + 1]? = some (.cells #[.int .i64 r, .int .i64 cn] 27 (0, 0))) := by
      have h := World.alloc_heap_new (w1.alloc (.cells #[.map (some b1), .map (some b2), .map (some b3)] 107)) (.cells #[.int .i64 r, .int .i64 cn] 27)
      rw [World.size_alloc] at h
      exact h
    have HR2 := hideIt (HR1.out.below HBa.out)
    refine (spotFor_any l HOI.out hn w1 b1 b2 b3 base HTT.out t hwf x _ HBa.out (errB HR2.out.bel h0 he) (posB HR2.out.bel h0)).mono ?_
    rintro e w3 ⟨(⟨hk, rfl⟩ | ⟨hk, rfl⟩), hb3⟩
    all_goals
      have HR3 := hideIt (HR2.out.below hb3)
      have HI3 := hideIt (blk_below HIa.out hb3)
      have hwl3 := HR3.out.lt
      have hil3 := (Array.getElem?_eq_some_iff.1 HI3.out).1
      have hdd : w1.heap.size + 1 ≠ w.heap.size := by omega
      have HK := hideIt hk
      clear hb3 HR2 HIa HBa hk
      generalize w1.heap.size + 1 = Bi at *
    · have htl : t.toNat ≤ (shownI (lvs l)).length := by have h := HK.out; simp [inB] at h; omega
      have HFO : Hid (opB r cn 1 (spotO l t.toNat).1 (spotO l t.toNat).2.1 (spotO l t.toNat).2.2 sg = inB sg 97 122) := by rw [← HCN.out]; exact put_form HM.out htl
      have HPO : Hid (putO l r t.toNat sg = ⟨r, cn, 1, (spotO l t.toNat).1, (spotO l t.toNat).2.1, (spotO l t.toNat).2.2, sg⟩) := by rw [← HCN.out]; exact putO_spot l r sg t.toNat
      clear htl
      generalize spotO l t.toNat = sp at *
      obtain ⟨ya, yb, ys⟩ := sp
      dsimp only at *
      have d0 := (blk_cell HI3.out 0).trans rfl
      have d1 := (blk_cell HI3.out 1).trans rfl
      go_wp2_with fail
      have hb2 : Below w3.heap.size w3 ((w3.alloc (.cells #[.int .i64 ya, .int .i64 yb, .int .i64 ys] 132)).alloc (.cells #[.int .i64 r, .int .i64 cn, .int .i64 1, .int .i64 ya, .int .i64 yb, .int .i64 ys, .int .i64 sg] 29)) := ((Below.refl _ _).alloc (Nat.le_refl _) _).alloc (by simp) _
      have hob : ((w3.alloc (.cells #[.int .i64 ya, .int .i64 yb, .int .i64 ys] 132)).alloc (.cells #[.int .i64 r, .int .i64 cn, .int .i64 1, .int .i64 ya, .int .i64 yb, .int .i64 ys, .int .i64 sg] 29)).heap[w3.heap.size + 1]? = some (.cells #[.int .i64 r, .int .i64 cn, .int .i64 1, .int .i64 ya, .int .i64 yb, .int .i64 ys, .int .i64 sg] 29 (0, 0)) := by
        have h := World.alloc_heap_new (w3.alloc (.cells #[.int .i64 ya, .int .i64 yb, .int .i64 ys] 132)) (.cells #[.int .i64 r, .int .i64 cn, .int .i64 1, .int .i64 ya, .int .i64 yb, .int .i64 ys, .int .i64 sg] 29)
        rw [World.size_alloc] at h
        exact h
      have HR4 := hideIt (HR3.out.below hb2)
      have hnb : w3.heap.size + 1 ≠ w.heap.size := by omega
      clear hb2 d0 d1 HR3 HI3
      have HOB := hideIt hob
      clear hob
      generalize ((w3.alloc (.cells #[.int .i64 ya, .int .i64 yb, .int .i64 ys] 132)).alloc (.cells #[.int .i64 r, .int .i64 cn, .int .i64 1, .int .i64 ya, .int .i64 yb, .int .i64 ys, .int .i64 sg] 29)) = W4 at *
      generalize w3.heap.size + 1 = Bo at *
      refine (implOp_any r cn 1 ya yb ys sg x W4 (errB HR4.out.bel h0 he) (posB HR4.out.bel h0)).mono ?_
      rintro e w5 ⟨rfl, hb5⟩
      rw [HFO.out]
      have HR5 := hideIt (HR4.out.below hb5)
      have HO5 := hideIt (blk_below HOB.out hb5)
      have hlo5 := (Array.getElem?_eq_some_iff.1 HO5.out).1
      have o0 := (blk_cell HO5.out 0).trans rfl
      have o1 := (blk_cell HO5.out 1).trans rfl
      have o2 := (blk_cell HO5.out 2).trans rfl
      have o3 := (blk_cell HO5.out 3).trans rfl
      have o4 := (blk_cell HO5.out 4).trans rfl
      have o5 := (blk_cell HO5.out 5).trans rfl
      have o6 := (blk_cell HO5.out 6).trans rfl
      clear hb5 HR4 HOB
      cases hsg : inB sg 97 122
      · have HNO : Hid (mayPut l r t sg = false) := by show mayPut l r t sg = false; unfold mayPut; rw [hsg]; simp
        clear hsg o0 o1 o2 o3 o4 o5 o6
        have herr5 := errB HR5.out.bel h0 he
        have nz : ¬ 0 = w.heap.size := by omega
        go_wp2_with fail
        have K1 : Hid (w5.drew.cell? ⟨0, 0, none⟩ = some (.iface 203 (.pointer (some x)))) := herr5
        have K9 : Hid ((w5.drew.setRow w.heap.size #[.int .i64 0, .int .i64 0, .int .i64 0, .int .i64 0, .int .i64 0, .int .i64 0, .int .i64 0]).cell? ⟨0, 0, none⟩ = some (.iface 203 (.pointer (some x)))) := setRow_cell (W := w5.drew) nz herr5
        have ks1 : (Instr.storeAt 29 (.pointer (some ⟨w.heap.size, 0, none⟩)) (.agg #[.int .i64 0, .int .i64 0, .int .i64 0, .int .i64 0, .int .i64 0, .int .i64 0, .int .i64 0])).run Tryd.prog w5.drew = .ok () (w5.drew.setRow w.heap.size #[.int .i64 0, .int .i64 0, .int .i64 0, .int .i64 0, .int .i64 0, .int .i64 0, .int .i64 0]) := store_op w5.drew w.heap.size _ HR5.out.box rfl 0 0 0 0 0 0 0
        have HST := hideIt ((HR5.out.below ((Below.refl _ _).drew)).stored 0 0 0 0 0 0 0)
        clear herr5
        go_region_held3 (fun w' => w'.cell? ⟨0, 0, none⟩ = some (.iface 203 (.pointer (some x))))
          (first | with_reducible exact K1.out | with_reducible exact K9.out)
          (fail)
        rename_i hHH
        clear hHH K9 K1 ks1
        generalize World.setRow _ _ _ = W9 at *
        go_wp2
        obtain ⟨hb9, hbel9⟩ := HST.out
        have r0 := (blkCell hb9 0).trans rfl
        have r1 := (blkCell hb9 1).trans rfl
        have r2 := (blkCell hb9 2).trans rfl
        have r3 := (blkCell hb9 3).trans rfl
        have r4 := (blkCell hb9 4).trans rfl
        have r5 := (blkCell hb9 5).trans rfl
        have r6 := (blkCell hb9 6).trans rfl
        exact bodyPost_ret (v := .tuple #[.agg #[.int .i64 0, .int .i64 0, .int .i64 0, .int .i64 0, .int .i64 0, .int .i64 0, .int .i64 0], .iface 203 (.pointer (some x))]) (by simp [results, Tryd.results67, go_sem, r0, r1, r2, r3, r4, r5, r6]) rfl ⟨.inl ⟨HNO.out, rfl⟩, hbel9⟩
      · have HYES : Hid (mayPut l r t sg = true) := by show mayPut l r t sg = true; unfold mayPut; rw [HM.out, hsg, HK.out]; rfl
        clear hsg
        have HA := HR5
        go_wp2_with (first | (refine wpList_store_row rfl 29 _ _ rfl w.heap.size _ rfl rfl 29 _ HA.out.box (by kernel_rfl) rfl (all7 _ _ _ _ _ _ _) ?_; have HST := hideIt (HA.out.stored r cn 1 ya yb ys sg); generalize World.setRow _ _ _ = W9 at *))
        obtain ⟨hb9, hbel9⟩ := HST.out
        have r0 := (blkCell hb9 0).trans rfl
        have r1 := (blkCell hb9 1).trans rfl
        have r2 := (blkCell hb9 2).trans rfl
        have r3 := (blkCell hb9 3).trans rfl
        have r4 := (blkCell hb9 4).trans rfl
        have r5 := (blkCell hb9 5).trans rfl
        have r6 := (blkCell hb9 6).trans rfl
        exact bodyPost_ret (v := .tuple #[.agg #[.int .i64 r, .int .i64 cn, .int .i64 1, .int .i64 ya, .int .i64 yb, .int .i64 ys, .int .i64 sg], .nilIface]) (by simp [results, Tryd.results67, go_sem, r0, r1, r2, r3, r4, r5, r6]) rfl ⟨.inr ⟨HYES.out, by rw [HPO.out]; rfl⟩, hbel9⟩
    · have HNO : Hid (mayPut l r t sg = false) := by show mayPut l r t sg = false; unfold mayPut; rw [HK.out]; simp
      have HA := hideIt (HR3.out.below ((Below.refl _ _).alloc (Nat.le_refl _) (.cells #[.int .i64 0, .int .i64 0, .int .i64 0] 132)))
      go_wp2_with (first | (refine wpList_store_row rfl 29 _ _ rfl w.heap.size _ rfl rfl 29 _ HA.out.box (by kernel_rfl) rfl (all7 _ _ _ _ _ _ _) ?_; have HST := hideIt (HA.out.stored 0 0 0 0 0 0 0); generalize World.setRow _ _ _ = W9 at *))
      obtain ⟨hb9, hbel9⟩ := HST.out
      have r0 := (blkCell hb9 0).trans rfl
      have r1 := (blkCell hb9 1).trans rfl
      have r2 := (blkCell hb9 2).trans rfl
      have r3 := (blkCell hb9 3).trans rfl
      have r4 := (blkCell hb9 4).trans rfl
      have r5 := (blkCell hb9 5).trans rfl
      have r6 := (blkCell hb9 6).trans rfl
      exact bodyPost_ret (v := .tuple #[.agg #[.int .i64 0, .int .i64 0, .int .i64 0, .int .i64 0, .int .i64 0, .int .i64 0, .int .i64 0], .iface 203 (.pointer (some x))]) (by simp [results, Tryd.results67, go_sem, r0, r1, r2, r3, r4, r5, r6]) rfl ⟨.inl ⟨HNO.out, rfl⟩, hbel9⟩
end Go.Proofs.YtedanlmippfojaaDoor

namespace Go.Proofs.YtedanlmippfojaaDoor
open Go.RowKit Go.Shelf
set_option linter.unusedSimpArgs false
set_option linter.unusedVariables false
attribute [local go_sem ↓] Go.wp_at_zero Go.wp_at_succ build_op0 build_opTake build_opPut

attribute [-go_sem] Instr.storeAt
attribute [local go_sem ↓] store_op_new
set_option maxRecDepth 100000 in
set_option maxHeartbeats 2000000 in
theorem implPut_any (l : List Op7) (g cap : Nat) (r t sg : Int) (hwf : wf64 t) (x : Addr) (w : World) (hl : OpsAt w g l) (hn : l.length ≤ 1048576) (hcap : l.length ≤ cap)
    (he : w.cell? ⟨0, 0, none⟩ = some (.iface 203 (.pointer (some x)))) (h0 : 0 < w.heap.size) :
    Calls Tryd.prog 17 #[.slice (some ⟨g, 0, none⟩) l.length cap, .int .i64 r, .int .i64 t, .int .i64 sg] w fun e w' =>
      ((mayPut l r t sg = false ∧ e = .returned (.tuple #[.agg #[.int .i64 0, .int .i64 0, .int .i64 0, .int .i64 0, .int .i64 0, .int .i64 0, .int .i64 0], .bool false])) ∨
       (mayPut l r t sg = true ∧ e = .returned (.tuple #[opV (putO l r t.toNat sg), .bool true]))) ∧ Below w.heap.size w w' := by
  have HL := hideIt hl
  have hgw := hl.1
  clear hl
  go_enter Tryd.func17, Tryd.ntmps17
  go_wp2_with fail
  have HRB := hideIt (RB.start w)
  refine (puttingAt_any l g cap r t sg hwf x _ (HL.out.below HRB.out.bel hgw) hn hcap (errB HRB.out.bel h0 he) (posB HRB.out.bel h0)).mono ?_
  rintro e w1 ⟨(⟨hm, rfl⟩ | ⟨hm, rfl⟩), hb1⟩
  all_goals
    have HM := hideIt hm
    have HR1 := hideIt (HRB.out.below hb1)
    have hwl := HR1.out.lt
    clear hm hb1 HRB
  · go_wp2_with fail
    obtain ⟨Wm, hWm⟩ : ∃ Wm, w1.alloc (.cells #[.int .i64 0, .int .i64 0, .int .i64 0, .int .i64 0, .int .i64 0, .int .i64 0, .int .i64 0] 29) = Wm := ⟨_, rfl⟩
    have hbm : Below w1.heap.size w1 Wm := by rw [← hWm]; exact (Below.refl _ _).alloc (Nat.le_refl _) _
    have hmk : Wm.heap[w1.heap.size]? = some (.cells #[.int .i64 0, .int .i64 0, .int .i64 0, .int .i64 0, .int .i64 0, .int .i64 0, .int .i64 0] 29 (0, 0)) := by rw [← hWm]; exact World.alloc_heap_new _ _
    have HIM := hideIt (HR1.out.below hbm)
    have herrm : Wm.cell? ⟨0, 0, none⟩ = some (.iface 203 (.pointer (some x))) := errB HIM.out.bel h0 he
    rw [hWm]
    clear hWm hbm
    have m0 := (blk_cell hmk 0).trans rfl
    have m1 := (blk_cell hmk 1).trans rfl
    have m2 := (blk_cell hmk 2).trans rfl
    have m3 := (blk_cell hmk 3).trans rfl
    have m4 := (blk_cell hmk 4).trans rfl
    have m5 := (blk_cell hmk 5).trans rfl
    have m6 := (blk_cell hmk 6).trans rfl
    clear hmk
    generalize w1.heap.size = M at *
    have n1 : M ≠ w.heap.size := by omega
    have n2 : 0 ≠ w.heap.size := by omega
    have K1 : Hid (Wm.drew.cell? ⟨M, 0, none⟩ = some (.int .i64 0) ∧ Wm.drew.cell? ⟨M, 1, none⟩ = some (.int .i64 0) ∧ Wm.drew.cell? ⟨M, 2, none⟩ = some (.int .i64 0) ∧ Wm.drew.cell? ⟨M, 3, none⟩ = some (.int .i64 0) ∧ Wm.drew.cell? ⟨M, 4, none⟩ = some (.int .i64 0) ∧ Wm.drew.cell? ⟨M, 5, none⟩ = some (.int .i64 0) ∧ Wm.drew.cell? ⟨M, 6, none⟩ = some (.int .i64 0) ∧ Wm.drew.cell? ⟨0, 0, none⟩ = some (.iface 203 (.pointer (some x)))) := ⟨m0, m1, m2, m3, m4, m5, m6, herrm⟩
    have K9 : Hid ((Wm.drew.setRow w.heap.size #[.int .i64 0, .int .i64 0, .int .i64 0, .int .i64 0, .int .i64 0, .int .i64 0, .int .i64 0]).cell? ⟨M, 0, none⟩ = some (.int .i64 0) ∧ (Wm.drew.setRow w.heap.size #[.int .i64 0, .int .i64 0, .int .i64 0, .int .i64 0, .int .i64 0, .int .i64 0, .int .i64 0]).cell? ⟨M, 1, none⟩ = some (.int .i64 0) ∧ (Wm.drew.setRow w.heap.size #[.int .i64 0, .int .i64 0, .int .i64 0, .int .i64 0, .int .i64 0, .int .i64 0, .int .i64 0]).cell? ⟨M, 2, none⟩ = some (.int .i64 0) ∧ (Wm.drew.setRow w.heap.size #[.int .i64 0, .int .i64 0, .int .i64 0, .int .i64 0, .int .i64 0, .int .i64 0, .int .i64 0]).cell? ⟨M, 3, none⟩ = some (.int .i64 0) ∧ (Wm.drew.setRow w.heap.size #[.int .i64 0, .int .i64 0, .int .i64 0, .int .i64 0, .int .i64 0, .int .i64 0, .int .i64 0]).cell? ⟨M, 4, none⟩ = some (.int .i64 0) ∧ (Wm.drew.setRow w.heap.size #[.int .i64 0, .int .i64 0, .int .i64 0, .int .i64 0, .int .i64 0, .int .i64 0, .int .i64 0]).cell? ⟨M, 5, none⟩ = some (.int .i64 0) ∧ (Wm.drew.setRow w.heap.size #[.int .i64 0, .int .i64 0, .int .i64 0, .int .i64 0, .int .i64 0, .int .i64 0, .int .i64 0]).cell? ⟨M, 6, none⟩ = some (.int .i64 0) ∧ (Wm.drew.setRow w.heap.size #[.int .i64 0, .int .i64 0, .int .i64 0, .int .i64 0, .int .i64 0, .int .i64 0, .int .i64 0]).cell? ⟨0, 0, none⟩ = some (.iface 203 (.pointer (some x)))) := ⟨setRow_cell (W := Wm.drew) n1 m0, setRow_cell (W := Wm.drew) n1 m1, setRow_cell (W := Wm.drew) n1 m2, setRow_cell (W := Wm.drew) n1 m3, setRow_cell (W := Wm.drew) n1 m4, setRow_cell (W := Wm.drew) n1 m5, setRow_cell (W := Wm.drew) n1 m6, setRow_cell (W := Wm.drew) n2 herrm⟩
    have ks1 : (Instr.storeAt 29 (.pointer (some ⟨w.heap.size, 0, none⟩)) (.agg #[.int .i64 0, .int .i64 0, .int .i64 0, .int .i64 0, .int .i64 0, .int .i64 0, .int .i64 0])).run Tryd.prog Wm.drew = .ok () (Wm.drew.setRow w.heap.size #[.int .i64 0, .int .i64 0, .int .i64 0, .int .i64 0, .int .i64 0, .int .i64 0, .int .i64 0]) := store_op Wm.drew w.heap.size _ HIM.out.box rfl 0 0 0 0 0 0 0
    have HST := hideIt ((HIM.out.below ((Below.refl _ _).drew)).stored 0 0 0 0 0 0 0)
    clear m0 m1 m2 m3 m4 m5 m6
    go_region_held3 (fun w' => w'.cell? ⟨M, 0, none⟩ = some (.int .i64 0) ∧ w'.cell? ⟨M, 1, none⟩ = some (.int .i64 0) ∧ w'.cell? ⟨M, 2, none⟩ = some (.int .i64 0) ∧ w'.cell? ⟨M, 3, none⟩ = some (.int .i64 0) ∧ w'.cell? ⟨M, 4, none⟩ = some (.int .i64 0) ∧ w'.cell? ⟨M, 5, none⟩ = some (.int .i64 0) ∧ w'.cell? ⟨M, 6, none⟩ = some (.int .i64 0) ∧ w'.cell? ⟨0, 0, none⟩ = some (.iface 203 (.pointer (some x))))
      (first | with_reducible exact K1.out | with_reducible exact K9.out)
      (first | (go_at_call 68; refine (is_same x _).mono ?_; rintro e w'' ⟨rfl, rfl⟩))
    rename_i hHH
    clear hHH K9 K1 ks1
    generalize World.setRow _ _ _ = W9 at *
    go_wp2
    obtain ⟨hb9, hbel9⟩ := HST.out
    have r0 := (blkCell hb9 0).trans rfl
    have r1 := (blkCell hb9 1).trans rfl
    have r2 := (blkCell hb9 2).trans rfl
    have r3 := (blkCell hb9 3).trans rfl
    have r4 := (blkCell hb9 4).trans rfl
    have r5 := (blkCell hb9 5).trans rfl
    have r6 := (blkCell hb9 6).trans rfl
    exact bodyPost_ret (v := .tuple #[.agg #[.int .i64 0, .int .i64 0, .int .i64 0, .int .i64 0, .int .i64 0, .int .i64 0, .int .i64 0], .bool false]) (by simp [results, Tryd.results17, go_sem, r0, r1, r2, r3, r4, r5, r6]) rfl ⟨.inl ⟨HM.out, rfl⟩, hbel9⟩
  · obtain ⟨oa, ob, ok, oc, od, os, og, ho⟩ : ∃ oa ob ok oc od os og, putO l r t.toNat sg = ⟨oa, ob, ok, oc, od, os, og⟩ := ⟨_, _, _, _, _, _, _, rfl⟩
    have HOO := hideIt ho
    rw [ho]
    clear ho
    unfold opV
    dsimp only
    go_wp2_with fail
    obtain ⟨Wm, hWm⟩ : ∃ Wm, w1.alloc (.cells #[.int .i64 oa, .int .i64 ob, .int .i64 ok, .int .i64 oc, .int .i64 od, .int .i64 os, .int .i64 og] 29) = Wm := ⟨_, rfl⟩
    have hbm : Below w1.heap.size w1 Wm := by rw [← hWm]; exact (Below.refl _ _).alloc (Nat.le_refl _) _
    have hmk : Wm.heap[w1.heap.size]? = some (.cells #[.int .i64 oa, .int .i64 ob, .int .i64 ok, .int .i64 oc, .int .i64 od, .int .i64 os, .int .i64 og] 29 (0, 0)) := by rw [← hWm]; exact World.alloc_heap_new _ _
    have HIM := hideIt (HR1.out.below hbm)
    have herrm : Wm.cell? ⟨0, 0, none⟩ = some (.iface 203 (.pointer (some x))) := errB HIM.out.bel h0 he
    rw [hWm]
    clear hWm hbm
    have m0 := (blk_cell hmk 0).trans rfl
    have m1 := (blk_cell hmk 1).trans rfl
    have m2 := (blk_cell hmk 2).trans rfl
    have m3 := (blk_cell hmk 3).trans rfl
    have m4 := (blk_cell hmk 4).trans rfl
    have m5 := (blk_cell hmk 5).trans rfl
    have m6 := (blk_cell hmk 6).trans rfl
    clear hmk
    generalize w1.heap.size = M at *
    have n1 : M ≠ w.heap.size := by omega
    have n2 : 0 ≠ w.heap.size := by omega
    have K1 : Hid (Wm.drew.cell? ⟨M, 0, none⟩ = some (.int .i64 oa) ∧ Wm.drew.cell? ⟨M, 1, none⟩ = some (.int .i64 ob) ∧ Wm.drew.cell? ⟨M, 2, none⟩ = some (.int .i64 ok) ∧ Wm.drew.cell? ⟨M, 3, none⟩ = some (.int .i64 oc) ∧ Wm.drew.cell? ⟨M, 4, none⟩ = some (.int .i64 od) ∧ Wm.drew.cell? ⟨M, 5, none⟩ = some (.int .i64 os) ∧ Wm.drew.cell? ⟨M, 6, none⟩ = some (.int .i64 og) ∧ Wm.drew.cell? ⟨0, 0, none⟩ = some (.iface 203 (.pointer (some x)))) := ⟨m0, m1, m2, m3, m4, m5, m6, herrm⟩
    have K9 : Hid ((Wm.drew.setRow w.heap.size #[.int .i64 oa, .int .i64 ob, .int .i64 ok, .int .i64 oc, .int .i64 od, .int .i64 os, .int .i64 og]).cell? ⟨M, 0, none⟩ = some (.int .i64 oa) ∧ (Wm.drew.setRow w.heap.size #[.int .i64 oa, .int .i64 ob, .int .i64 ok, .int .i64 oc, .int .i64 od, .int .i64 os, .int .i64 og]).cell? ⟨M, 1, none⟩ = some (.int .i64 ob) ∧ (Wm.drew.setRow w.heap.size #[.int .i64 oa, .int .i64 ob, .int .i64 ok, .int .i64 oc, .int .i64 od, .int .i64 os, .int .i64 og]).cell? ⟨M, 2, none⟩ = some (.int .i64 ok) ∧ (Wm.drew.setRow w.heap.size #[.int .i64 oa, .int .i64 ob, .int .i64 ok, .int .i64 oc, .int .i64 od, .int .i64 os, .int .i64 og]).cell? ⟨M, 3, none⟩ = some (.int .i64 oc) ∧ (Wm.drew.setRow w.heap.size #[.int .i64 oa, .int .i64 ob, .int .i64 ok, .int .i64 oc, .int .i64 od, .int .i64 os, .int .i64 og]).cell? ⟨M, 4, none⟩ = some (.int .i64 od) ∧ (Wm.drew.setRow w.heap.size #[.int .i64 oa, .int .i64 ob, .int .i64 ok, .int .i64 oc, .int .i64 od, .int .i64 os, .int .i64 og]).cell? ⟨M, 5, none⟩ = some (.int .i64 os) ∧ (Wm.drew.setRow w.heap.size #[.int .i64 oa, .int .i64 ob, .int .i64 ok, .int .i64 oc, .int .i64 od, .int .i64 os, .int .i64 og]).cell? ⟨M, 6, none⟩ = some (.int .i64 og) ∧ (Wm.drew.setRow w.heap.size #[.int .i64 oa, .int .i64 ob, .int .i64 ok, .int .i64 oc, .int .i64 od, .int .i64 os, .int .i64 og]).cell? ⟨0, 0, none⟩ = some (.iface 203 (.pointer (some x)))) := ⟨setRow_cell (W := Wm.drew) n1 m0, setRow_cell (W := Wm.drew) n1 m1, setRow_cell (W := Wm.drew) n1 m2, setRow_cell (W := Wm.drew) n1 m3, setRow_cell (W := Wm.drew) n1 m4, setRow_cell (W := Wm.drew) n1 m5, setRow_cell (W := Wm.drew) n1 m6, setRow_cell (W := Wm.drew) n2 herrm⟩
    have ks1 : (Instr.storeAt 29 (.pointer (some ⟨w.heap.size, 0, none⟩)) (.agg #[.int .i64 oa, .int .i64 ob, .int .i64 ok, .int .i64 oc, .int .i64 od, .int .i64 os, .int .i64 og])).run Tryd.prog Wm.drew = .ok () (Wm.drew.setRow w.heap.size #[.int .i64 oa, .int .i64 ob, .int .i64 ok, .int .i64 oc, .int .i64 od, .int .i64 os, .int .i64 og]) := store_op Wm.drew w.heap.size _ HIM.out.box rfl oa ob ok oc od os og
    have HST := hideIt ((HIM.out.below ((Below.refl _ _).drew)).stored oa ob ok oc od os og)
    clear m0 m1 m2 m3 m4 m5 m6
    go_region_held3 (fun w' => w'.cell? ⟨M, 0, none⟩ = some (.int .i64 oa) ∧ w'.cell? ⟨M, 1, none⟩ = some (.int .i64 ob) ∧ w'.cell? ⟨M, 2, none⟩ = some (.int .i64 ok) ∧ w'.cell? ⟨M, 3, none⟩ = some (.int .i64 oc) ∧ w'.cell? ⟨M, 4, none⟩ = some (.int .i64 od) ∧ w'.cell? ⟨M, 5, none⟩ = some (.int .i64 os) ∧ w'.cell? ⟨M, 6, none⟩ = some (.int .i64 og) ∧ w'.cell? ⟨0, 0, none⟩ = some (.iface 203 (.pointer (some x))))
      (first | with_reducible exact K1.out | with_reducible exact K9.out)
      (first | (go_at_call 68; refine (is_nil x _).mono ?_; rintro e w'' ⟨rfl, rfl⟩))
    rename_i hHH
    clear hHH K9 K1 ks1
    generalize World.setRow _ _ _ = W9 at *
    go_wp2
    obtain ⟨hb9, hbel9⟩ := HST.out
    have r0 := (blkCell hb9 0).trans rfl
    have r1 := (blkCell hb9 1).trans rfl
    have r2 := (blkCell hb9 2).trans rfl
    have r3 := (blkCell hb9 3).trans rfl
    have r4 := (blkCell hb9 4).trans rfl
    have r5 := (blkCell hb9 5).trans rfl
    have r6 := (blkCell hb9 6).trans rfl
    exact bodyPost_ret (v := .tuple #[.agg #[.int .i64 oa, .int .i64 ob, .int .i64 ok, .int .i64 oc, .int .i64 od, .int .i64 os, .int .i64 og], .bool true]) (by simp [results, Tryd.results17, go_sem, r0, r1, r2, r3, r4, r5, r6]) rfl ⟨.inr ⟨HM.out, by rw [HOO.out]; rfl⟩, hbel9⟩
/-- What both answer. -/
def putA (l : List Op7) (r t sg : Int) : Op7 := if mayPut l r t sg = true then putO l r t.toNat sg else ⟨0, 0, 0, 0, 0, 0, 0⟩
theorem putA_of {l : List Op7} {r t sg : Int} {e : Ending} (h : (mayPut l r t sg = false ∧ e = .returned (.tuple #[.agg #[.int .i64 0, .int .i64 0, .int .i64 0, .int .i64 0, .int .i64 0, .int .i64 0, .int .i64 0], .bool false])) ∨ (mayPut l r t sg = true ∧ e = .returned (.tuple #[opV (putO l r t.toNat sg), .bool true]))) : e = .returned (.tuple #[opV (putA l r t sg), .bool (mayPut l r t sg)]) := by
  rcases h with ⟨h1, h2⟩ | ⟨h1, h2⟩
  · rw [h2]; unfold putA; rw [h1]; rfl
  · rw [h2]; unfold putA; rw [h1]; rfl
end Go.Proofs.YtedanlmippfojaaDoor

namespace Go.Proofs.YtedanlmippfojaaDoor
open Go.RowKit Go.Shelf
open Go.Maps (Keyed)
set_option linter.unusedSimpArgs false
set_option linter.unusedVariables false
attribute [local go_sem ↓] Go.wp_at_zero Go.wp_at_succ build_op0 build_opTake build_opPut
attribute [-go_sem] Instr.storeAt
attribute [local go_sem ↓] store_op_new

set_option maxRecDepth 100000 in
set_option maxHeartbeats 2000000 in
theorem implPut_nil (l : List Op7) (hL0 : l = []) (r t sg : Int) (hwf : wf64 t) (x : Addr) (w : World)
    (he : w.cell? ⟨0, 0, none⟩ = some (.iface 203 (.pointer (some x)))) (h0 : 0 < w.heap.size) :
    Calls Tryd.prog 17 #[.slice none 0 0, .int .i64 r, .int .i64 t, .int .i64 sg] w fun e w' =>
      ((mayPut l r t sg = false ∧ e = .returned (.tuple #[.agg #[.int .i64 0, .int .i64 0, .int .i64 0, .int .i64 0, .int .i64 0, .int .i64 0, .int .i64 0], .bool false])) ∨
       (mayPut l r t sg = true ∧ e = .returned (.tuple #[opV (putO l r t.toNat sg), .bool true]))) ∧ Below w.heap.size w w' := by
  have HN := hideIt hL0
  have hn : l.length ≤ 1048576 := by rw [hL0]; simp
  clear hL0
  go_enter Tryd.func17, Tryd.ntmps17
  go_wp2_with fail
  have HRB := hideIt (RB.start w)
  refine (puttingAt_nil l HN.out r t sg hwf x _ (errB HRB.out.bel h0 he) (posB HRB.out.bel h0)).mono ?_
  rintro e w1 ⟨(⟨hm, rfl⟩ | ⟨hm, rfl⟩), hb1⟩
  all_goals
    have HM := hideIt hm
    have HR1 := hideIt (HRB.out.below hb1)
    have hwl := HR1.out.lt
    clear hm hb1 HRB
  · go_wp2_with fail
    obtain ⟨Wm, hWm⟩ : ∃ Wm, w1.alloc (.cells #[.int .i64 0, .int .i64 0, .int .i64 0, .int .i64 0, .int .i64 0, .int .i64 0, .int .i64 0] 29) = Wm := ⟨_, rfl⟩
    have hbm : Below w1.heap.size w1 Wm := by rw [← hWm]; exact (Below.refl _ _).alloc (Nat.le_refl _) _
    have hmk : Wm.heap[w1.heap.size]? = some (.cells #[.int .i64 0, .int .i64 0, .int .i64 0, .int .i64 0, .int .i64 0, .int .i64 0, .int .i64 0] 29 (0, 0)) := by rw [← hWm]; exact World.alloc_heap_new _ _
    have HIM := hideIt (HR1.out.below hbm)
    have herrm : Wm.cell? ⟨0, 0, none⟩ = some (.iface 203 (.pointer (some x))) := errB HIM.out.bel h0 he
    rw [hWm]
    clear hWm hbm
    have m0 := (blk_cell hmk 0).trans rfl
    have m1 := (blk_cell hmk 1).trans rfl
    have m2 := (blk_cell hmk 2).trans rfl
    have m3 := (blk_cell hmk 3).trans rfl
    have m4 := (blk_cell hmk 4).trans rfl
    have m5 := (blk_cell hmk 5).trans rfl
    have m6 := (blk_cell hmk 6).trans rfl
    clear hmk
    generalize w1.heap.size = M at *
    have n1 : M ≠ w.heap.size := by omega
    have n2 : 0 ≠ w.heap.size := by omega
    have K1 : Hid (Wm.drew.cell? ⟨M, 0, none⟩ = some (.int .i64 0) ∧ Wm.drew.cell? ⟨M, 1, none⟩ = some (.int .i64 0) ∧ Wm.drew.cell? ⟨M, 2, none⟩ = some (.int .i64 0) ∧ Wm.drew.cell? ⟨M, 3, none⟩ = some (.int .i64 0) ∧ Wm.drew.cell? ⟨M, 4, none⟩ = some (.int .i64 0) ∧ Wm.drew.cell? ⟨M, 5, none⟩ = some (.int .i64 0) ∧ Wm.drew.cell? ⟨M, 6, none⟩ = some (.int .i64 0) ∧ Wm.drew.cell? ⟨0, 0, none⟩ = some (.iface 203 (.pointer (some x)))) := ⟨m0, m1, m2, m3, m4, m5, m6, herrm⟩
    have K9 : Hid ((Wm.drew.setRow w.heap.size #[.int .i64 0, .int .i64 0, .int .i64 0, .int .i64 0, .int .i64 0, .int .i64 0, .int .i64 0]).cell? ⟨M, 0, none⟩ = some (.int .i64 0) ∧ (Wm.drew.setRow w.heap.size #[.int .i64 0, .int .i64 0, .int .i64 0, .int .i64 0, .int .i64 0, .int .i64 0, .int .i64 0]).cell? ⟨M, 1, none⟩ = some (.int .i64 0) ∧ (Wm.drew.setRow w.heap.size #[.int .i64 0, .int .i64 0, .int .i64 0, .int .i64 0, .int .i64 0, .int .i64 0, .int .i64 0]).cell? ⟨M, 2, none⟩ = some (.int .i64 0) ∧ (Wm.drew.setRow w.heap.size #[.int .i64 0, .int .i64 0, .int .i64 0, .int .i64 0, .int .i64 0, .int .i64 0, .int .i64 0]).cell? ⟨M, 3, none⟩ = some (.int .i64 0) ∧ (Wm.drew.setRow w.heap.size #[.int .i64 0, .int .i64 0, .int .i64 0, .int .i64 0, .int .i64 0, .int .i64 0, .int .i64 0]).cell? ⟨M, 4, none⟩ = some (.int .i64 0) ∧ (Wm.drew.setRow w.heap.size #[.int .i64 0, .int .i64 0, .int .i64 0, .int .i64 0, .int .i64 0, .int .i64 0, .int .i64 0]).cell? ⟨M, 5, none⟩ = some (.int .i64 0) ∧ (Wm.drew.setRow w.heap.size #[.int .i64 0, .int .i64 0, .int .i64 0, .int .i64 0, .int .i64 0, .int .i64 0, .int .i64 0]).cell? ⟨M, 6, none⟩ = some (.int .i64 0) ∧ (Wm.drew.setRow w.heap.size #[.int .i64 0, .int .i64 0, .int .i64 0, .int .i64 0, .int .i64 0, .int .i64 0, .int .i64 0]).cell? ⟨0, 0, none⟩ = some (.iface 203 (.pointer (some x)))) := ⟨setRow_cell (W := Wm.drew) n1 m0, setRow_cell (W := Wm.drew) n1 m1, setRow_cell (W := Wm.drew) n1 m2, setRow_cell (W := Wm.drew) n1 m3, setRow_cell (W := Wm.drew) n1 m4, setRow_cell (W := Wm.drew) n1 m5, setRow_cell (W := Wm.drew) n1 m6, setRow_cell (W := Wm.drew) n2 herrm⟩
    have ks1 : (Instr.storeAt 29 (.pointer (some ⟨w.heap.size, 0, none⟩)) (.agg #[.int .i64 0, .int .i64 0, .int .i64 0, .int .i64 0, .int .i64 0, .int .i64 0, .int .i64 0])).run Tryd.prog Wm.drew = .ok () (Wm.drew.setRow w.heap.size #[.int .i64 0, .int .i64 0, .int .i64 0, .int .i64 0, .int .i64 0, .int .i64 0, .int .i64 0]) := store_op Wm.drew w.heap.size _ HIM.out.box rfl 0 0 0 0 0 0 0
    have HST := hideIt ((HIM.out.below ((Below.refl _ _).drew)).stored 0 0 0 0 0 0 0)
    clear m0 m1 m2 m3 m4 m5 m6
    go_region_held3 (fun w' => w'.cell? ⟨M, 0, none⟩ = some (.int .i64 0) ∧ w'.cell? ⟨M, 1, none⟩ = some (.int .i64 0) ∧ w'.cell? ⟨M, 2, none⟩ = some (.int .i64 0) ∧ w'.cell? ⟨M, 3, none⟩ = some (.int .i64 0) ∧ w'.cell? ⟨M, 4, none⟩ = some (.int .i64 0) ∧ w'.cell? ⟨M, 5, none⟩ = some (.int .i64 0) ∧ w'.cell? ⟨M, 6, none⟩ = some (.int .i64 0) ∧ w'.cell? ⟨0, 0, none⟩ = some (.iface 203 (.pointer (some x))))
      (first | with_reducible exact K1.out | with_reducible exact K9.out)
      (first | (go_at_call 68; refine (is_same x _).mono ?_; rintro e w'' ⟨rfl, rfl⟩))
    rename_i hHH
    clear hHH K9 K1 ks1
    generalize World.setRow _ _ _ = W9 at *
    go_wp2
    obtain ⟨hb9, hbel9⟩ := HST.out
    have r0 := (blkCell hb9 0).trans rfl
    have r1 := (blkCell hb9 1).trans rfl
    have r2 := (blkCell hb9 2).trans rfl
    have r3 := (blkCell hb9 3).trans rfl
    have r4 := (blkCell hb9 4).trans rfl
    have r5 := (blkCell hb9 5).trans rfl
    have r6 := (blkCell hb9 6).trans rfl
    exact bodyPost_ret (v := .tuple #[.agg #[.int .i64 0, .int .i64 0, .int .i64 0, .int .i64 0, .int .i64 0, .int .i64 0, .int .i64 0], .bool false]) (by simp [results, Tryd.results17, go_sem, r0, r1, r2, r3, r4, r5, r6]) rfl ⟨.inl ⟨HM.out, rfl⟩, hbel9⟩
  · obtain ⟨oa, ob, ok, oc, od, os, og, ho⟩ : ∃ oa ob ok oc od os og, putO l r t.toNat sg = ⟨oa, ob, ok, oc, od, os, og⟩ := ⟨_, _, _, _, _, _, _, rfl⟩
    have HOO := hideIt ho
    rw [ho]
    clear ho
    unfold opV
    dsimp only
    go_wp2_with fail
    obtain ⟨Wm, hWm⟩ : ∃ Wm, w1.alloc (.cells #[.int .i64 oa, .int .i64 ob, .int .i64 ok, .int .i64 oc, .int .i64 od, .int .i64 os, .int .i64 og] 29) = Wm := ⟨_, rfl⟩
    have hbm : Below w1.heap.size w1 Wm := by rw [← hWm]; exact (Below.refl _ _).alloc (Nat.le_refl _) _
    have hmk : Wm.heap[w1.heap.size]? = some (.cells #[.int .i64 oa, .int .i64 ob, .int .i64 ok, .int .i64 oc, .int .i64 od, .int .i64 os, .int .i64 og] 29 (0, 0)) := by rw [← hWm]; exact World.alloc_heap_new _ _
    have HIM := hideIt (HR1.out.below hbm)
    have herrm : Wm.cell? ⟨0, 0, none⟩ = some (.iface 203 (.pointer (some x))) := errB HIM.out.bel h0 he
    rw [hWm]
    clear hWm hbm
    have m0 := (blk_cell hmk 0).trans rfl
    have m1 := (blk_cell hmk 1).trans rfl
    have m2 := (blk_cell hmk 2).trans rfl
    have m3 := (blk_cell hmk 3).trans rfl
    have m4 := (blk_cell hmk 4).trans rfl
    have m5 := (blk_cell hmk 5).trans rfl
    have m6 := (blk_cell hmk 6).trans rfl
    clear hmk
    generalize w1.heap.size = M at *
    have n1 : M ≠ w.heap.size := by omega
    have n2 : 0 ≠ w.heap.size := by omega
    have K1 : Hid (Wm.drew.cell? ⟨M, 0, none⟩ = some (.int .i64 oa) ∧ Wm.drew.cell? ⟨M, 1, none⟩ = some (.int .i64 ob) ∧ Wm.drew.cell? ⟨M, 2, none⟩ = some (.int .i64 ok) ∧ Wm.drew.cell? ⟨M, 3, none⟩ = some (.int .i64 oc) ∧ Wm.drew.cell? ⟨M, 4, none⟩ = some (.int .i64 od) ∧ Wm.drew.cell? ⟨M, 5, none⟩ = some (.int .i64 os) ∧ Wm.drew.cell? ⟨M, 6, none⟩ = some (.int .i64 og) ∧ Wm.drew.cell? ⟨0, 0, none⟩ = some (.iface 203 (.pointer (some x)))) := ⟨m0, m1, m2, m3, m4, m5, m6, herrm⟩
    have K9 : Hid ((Wm.drew.setRow w.heap.size #[.int .i64 oa, .int .i64 ob, .int .i64 ok, .int .i64 oc, .int .i64 od, .int .i64 os, .int .i64 og]).cell? ⟨M, 0, none⟩ = some (.int .i64 oa) ∧ (Wm.drew.setRow w.heap.size #[.int .i64 oa, .int .i64 ob, .int .i64 ok, .int .i64 oc, .int .i64 od, .int .i64 os, .int .i64 og]).cell? ⟨M, 1, none⟩ = some (.int .i64 ob) ∧ (Wm.drew.setRow w.heap.size #[.int .i64 oa, .int .i64 ob, .int .i64 ok, .int .i64 oc, .int .i64 od, .int .i64 os, .int .i64 og]).cell? ⟨M, 2, none⟩ = some (.int .i64 ok) ∧ (Wm.drew.setRow w.heap.size #[.int .i64 oa, .int .i64 ob, .int .i64 ok, .int .i64 oc, .int .i64 od, .int .i64 os, .int .i64 og]).cell? ⟨M, 3, none⟩ = some (.int .i64 oc) ∧ (Wm.drew.setRow w.heap.size #[.int .i64 oa, .int .i64 ob, .int .i64 ok, .int .i64 oc, .int .i64 od, .int .i64 os, .int .i64 og]).cell? ⟨M, 4, none⟩ = some (.int .i64 od) ∧ (Wm.drew.setRow w.heap.size #[.int .i64 oa, .int .i64 ob, .int .i64 ok, .int .i64 oc, .int .i64 od, .int .i64 os, .int .i64 og]).cell? ⟨M, 5, none⟩ = some (.int .i64 os) ∧ (Wm.drew.setRow w.heap.size #[.int .i64 oa, .int .i64 ob, .int .i64 ok, .int .i64 oc, .int .i64 od, .int .i64 os, .int .i64 og]).cell? ⟨M, 6, none⟩ = some (.int .i64 og) ∧ (Wm.drew.setRow w.heap.size #[.int .i64 oa, .int .i64 ob, .int .i64 ok, .int .i64 oc, .int .i64 od, .int .i64 os, .int .i64 og]).cell? ⟨0, 0, none⟩ = some (.iface 203 (.pointer (some x)))) := ⟨setRow_cell (W := Wm.drew) n1 m0, setRow_cell (W := Wm.drew) n1 m1, setRow_cell (W := Wm.drew) n1 m2, setRow_cell (W := Wm.drew) n1 m3, setRow_cell (W := Wm.drew) n1 m4, setRow_cell (W := Wm.drew) n1 m5, setRow_cell (W := Wm.drew) n1 m6, setRow_cell (W := Wm.drew) n2 herrm⟩
    have ks1 : (Instr.storeAt 29 (.pointer (some ⟨w.heap.size, 0, none⟩)) (.agg #[.int .i64 oa, .int .i64 ob, .int .i64 ok, .int .i64 oc, .int .i64 od, .int .i64 os, .int .i64 og])).run Tryd.prog Wm.drew = .ok () (Wm.drew.setRow w.heap.size #[.int .i64 oa, .int .i64 ob, .int .i64 ok, .int .i64 oc, .int .i64 od, .int .i64 os, .int .i64 og]) := store_op Wm.drew w.heap.size _ HIM.out.box rfl oa ob ok oc od os og
    have HST := hideIt ((HIM.out.below ((Below.refl _ _).drew)).stored oa ob ok oc od os og)
    clear m0 m1 m2 m3 m4 m5 m6
    go_region_held3 (fun w' => w'.cell? ⟨M, 0, none⟩ = some (.int .i64 oa) ∧ w'.cell? ⟨M, 1, none⟩ = some (.int .i64 ob) ∧ w'.cell? ⟨M, 2, none⟩ = some (.int .i64 ok) ∧ w'.cell? ⟨M, 3, none⟩ = some (.int .i64 oc) ∧ w'.cell? ⟨M, 4, none⟩ = some (.int .i64 od) ∧ w'.cell? ⟨M, 5, none⟩ = some (.int .i64 os) ∧ w'.cell? ⟨M, 6, none⟩ = some (.int .i64 og) ∧ w'.cell? ⟨0, 0, none⟩ = some (.iface 203 (.pointer (some x))))
      (first | with_reducible exact K1.out | with_reducible exact K9.out)
      (first | (go_at_call 68; refine (is_nil x _).mono ?_; rintro e w'' ⟨rfl, rfl⟩))
    rename_i hHH
    clear hHH K9 K1 ks1
    generalize World.setRow _ _ _ = W9 at *
    go_wp2
    obtain ⟨hb9, hbel9⟩ := HST.out
    have r0 := (blkCell hb9 0).trans rfl
    have r1 := (blkCell hb9 1).trans rfl
    have r2 := (blkCell hb9 2).trans rfl
    have r3 := (blkCell hb9 3).trans rfl
    have r4 := (blkCell hb9 4).trans rfl
    have r5 := (blkCell hb9 5).trans rfl
    have r6 := (blkCell hb9 6).trans rfl
    exact bodyPost_ret (v := .tuple #[.agg #[.int .i64 oa, .int .i64 ob, .int .i64 ok, .int .i64 oc, .int .i64 od, .int .i64 os, .int .i64 og], .bool true]) (by simp [results, Tryd.results17, go_sem, r0, r1, r2, r3, r4, r5, r6]) rfl ⟨.inr ⟨HM.out, by rw [HOO.out]; rfl⟩, hbel9⟩
end Go.Proofs.YtedanlmippfojaaDoor

namespace Go.Proofs.YtedanlmippfojaaDoor
open Go.RowKit
set_option linter.unusedSimpArgs false
set_option linter.unusedVariables false
attribute [local go_sem ↓] Go.wp_at_zero Go.wp_at_succ

set_option maxRecDepth 100000 in
set_option maxHeartbeats 4000000 in
theorem putIn_nil (l : List Op7) (hL0 : l = []) (o : Op7) (w : World) :
    Calls Tryd.prog 79 #[.slice none 0 0, .agg #[.int .i64 o.a, .int .i64 o.b, .int .i64 o.k, .int .i64 o.c, .int .i64 o.d, .int .i64 o.s, .int .i64 o.g]] w fun e w' => ∃ G c, e = .returned (.slice (some ⟨G, 0, none⟩) (insL l o).length c) ∧ OwnOps w' w.heap.size G c (insL l o) ∧ Below w.heap.size w w' := by
  have HIN : Hid (insL l o = [o]) := by show insL l o = [o]; subst hL0; rfl
  clear hL0
  obtain ⟨i0, hi, hz0', hz1', hz2⟩ := info_parts infoOp
  have HI1 := hideIt hi
  have HZ0 := hideIt hz0'
  have HZ1 := hideIt hz1'
  have HZ2 := hideIt hz2
  clear hi hz0' hz1' hz2
  go_enter Tryd.func79, Tryd.ntmps79
  go_wp2
  have HST : Hid (WL w (w.alloc (.cells #[.int .i64 o.a, .int .i64 o.b, .int .i64 o.k, .int .i64 o.c, .int .i64 o.d, .int .i64 o.s, .int .i64 o.g] 29)) o (.slice none 0 0) []) :=
    ⟨World.ownsRow_nil _ _ _ _, World.alloc_heap_new w _, (Below.refl _ _).alloc (Nat.le_refl _) _⟩
  go_loopw [5] (fun i wr => i = .int .i64 0 ∧ WL w wr o (.slice none 0 0) [])
    (fun i _ => 0)
  case atStart => exact ⟨rfl, HST.out⟩
  case round =>
    clear HST
    obtain ⟨rfl, hS⟩ := hrel
    have HS := hideIt hS
    clear hS
    go_wp2
    go_quiet (fail)
    generalize hD : World.drewN wr _ = w2
    have HS2 : Hid (WL w w2 o (.slice none 0 0) []) := by show WL w w2 o (.slice none 0 0) []; rw [← hD]; exact HS.out.below (below_drewN (Below.refl _ _) _)
    clear hD
    go_wp2_with (first
      | (at_make; refine wpList_make_own _ rfl _ _ 23 rfl (w.heap.size + 1) 29 i0 _ 7 Tryd.underlying23 HI1.out HZ0.out HZ1.out .i64 .i64 _ 1 rfl rfl rfl (by rw [HZ2.out]; omega) (by unfold maxLen; omega) HS2.out.lt ?_; intro w3 hown3 hg3; have hb3 : Below w2.heap.size w2 w3 := (Below.refl _ _).grown hg3 (Nat.le_refl _) (fun k h => by cases h); have HS3 : Hid (WL w w3 o (.slice (some ⟨w2.heap.size, 0, none⟩) 0 1) []) := ⟨hown3, (hb3.block _ HS2.out.lt).trans HS2.out.box, Bstep HS2.out.bel hb3⟩; clear hown3 hg3 hb3; obtain ⟨b0, b1, b2, b3, b4, b5, b6⟩ := HS3.out.id; have hw3 := HS3.out.lt)
      | (at_builtin; refine wpList_append_own_none rfl _ _ 23 rfl (w.heap.size + 1) 29 i0 7 Tryd.underlying23 HI1.out (.slice (some ⟨w2.heap.size, 0, none⟩) 0 1) 0 [] rfl HS3.out.row rfl ?_)
      | (at_builtin; refine wpList_append_own_at _ rfl _ _ 23 rfl (w.heap.size + 1) 29 i0 _ 7 56 Tryd.underlying23 HI1.out HZ0.out HZ1.out HZ2.out rfl (by decide) _ _ _ rfl (HS3.out.row.alloc _) ⟨w3.heap.size, 0, none⟩ 1 1 (opCells [o]) rfl rfl (cells_new w3 (opCells [o]) 29) (opCells_one _) (by simp [maxLen]) (by simp) (by simp; omega) ?_; intro v5 w5 hown5 hg5 _ _; have HS5 := hideIt (WL.app (M := [o]) (HS3.out.below ((Below.refl _ _).alloc (Nat.le_refl _) _)) hg5 hown5); clear hown5 hg5)
      | (at_builtin; refine wpList_append_own_none rfl _ _ 23 rfl (w.heap.size + 1) 29 i0 7 Tryd.underlying23 HI1.out _ _ _ rfl HS5.out.row rfl ?_))
    go_ret
    have hR := HS5.out.row
    rw [show [] ++ [o] = insL l o from HIN.out.symm] at hR
    obtain ⟨gR, cR, rfl⟩ := ins_row hR
    exact ⟨_, _, rfl, ownsRow_base (Nat.le_succ _) hR, HS5.out.bel⟩
end Go.Proofs.YtedanlmippfojaaDoor

namespace Go.Proofs.YtedanlmippfojaaDoor
open Go.RowKit Go.Shelf
open Go.Maps (Keyed)
set_option linter.unusedSimpArgs false
set_option linter.unusedVariables false
attribute [local go_sem ↓] Go.wp_at_zero Go.wp_at_succ

set_option maxRecDepth 100000 in
set_option maxHeartbeats 1000000 in
theorem implWith_nil (l : List Op7) (hL0 : l = []) (o : Op7) (x : Addr) (w : World)
    (he : w.cell? ⟨0, 0, none⟩ = some (.iface 203 (.pointer (some x)))) (h0 : 0 < w.heap.size) :
    Calls Tryd.prog 26 #[.slice none 0 0, .agg #[.int .i64 o.a, .int .i64 o.b, .int .i64 o.k, .int .i64 o.c, .int .i64 o.d, .int .i64 o.s, .int .i64 o.g]] w fun e w' =>
      ∃ v, e = .returned (.tuple #[v, .bool (okW l o)]) ∧ w'.ownsRow w.heap.size 29 7 v (ansW l o).length (opCells (ansW l o)) ∧ Below w.heap.size w w' := by
  have HN := hideIt hL0
  have hn : l.length ≤ 1048576 := by rw [hL0]; simp
  clear hL0
  have HW : Hid (WL w (w.alloc (.cells #[.int .i64 o.a, .int .i64 o.b, .int .i64 o.k, .int .i64 o.c, .int .i64 o.d, .int .i64 o.s, .int .i64 o.g] 29)) o (.slice none 0 0) []) :=
    ⟨World.ownsRow_nil _ _ _ _, World.alloc_heap_new w _, (Below.refl _ _).alloc (Nat.le_refl _) _⟩
  cases hops : opsB l
  · have hz : okW l o = false := by unfold okW; rw [hops]; rfl
    rw [ansW_no hz, hz]
    clear hz
    have HO := hideIt hops
    clear hops
    go_enter Tryd.func26, Tryd.ntmps26
    go_wp2_with (first
      | (go_at_call 36; refine (implOps_nil l HN.out x _ (errB HW.out.bel h0 he) (posB HW.out.bel h0)).mono ?_; rintro e w1 ⟨rfl, hb1⟩; rw [th_same, HO.out]; have HB := hideIt (HW.out.below hb1).bel; clear hb1))
    exact bodyPost_ret (v := .tuple #[.slice none 0 0, .bool false]) (by simp [results, Tryd.results26, go_sem]) rfl ⟨_, rfl, World.ownsRow_nil _ _ _ _, HB.out⟩
  · have h36 := ops_36 hops
    have HINS : Hid (findI l o.a o.b < 0 → insL l o = withL l o) := fun h2 => insL_with (ops_sorted hops) (find_new h2)
    have HDUP : Hid (¬ findI l o.a o.b < 0 → opsB (insL l o) = false) := insL_dup
    have HOK : Hid (okW l o = (decide (findI l o.a o.b < 0) && opsB (withL l o))) := by show okW l o = _; unfold okW; rw [hops]; rfl
    have HO := hideIt hops
    clear hops
    cases hi : opsB (insL l o)
    · have hz : okW l o = false := by
        rw [HOK.out]
        by_cases hf : findI l o.a o.b < 0
        · rw [← HINS.out hf, hi, Bool.and_false]
        · simp [hf]
      rw [ansW_no hz, hz]
      have HI := hideIt hi
      clear hi hz HOK HINS HDUP
      go_enter Tryd.func26, Tryd.ntmps26
      go_wp2_with fail
      refine (implOps_nil l HN.out x _ (errB HW.out.bel h0 he) (posB HW.out.bel h0)).mono ?_
      rintro e w1 ⟨rfl, hb1⟩
      rw [th_same, HO.out]
      have HW1 := hideIt (HW.out.below hb1)
      have HB := hideIt HW1.out.bel
      obtain ⟨b0, b1, b2, b3, b4, b5, b6⟩ := HW1.out.id
      clear hb1
      go_wp2_with fail
      refine (putIn_nil l HN.out o _).mono ?_
      rintro e w2 ⟨G, c, rfl, hO2, hb2⟩
      have HO2 := hideIt hO2
      have HB := hideIt (Bstep HB.out hb2)
      clear hO2 hb2
      go_wp2_with fail
      refine (implOps_any (insL l o) G c x _ HO2.out.at (by rw [insL_len]; omega) HO2.out.cap (errB HB.out h0 he) (posB HB.out h0)).mono ?_
      rintro e w3 ⟨rfl, hb3⟩
      rw [th_same, HI.out]
      have HB := hideIt (Bstep HB.out hb3)
      clear hb3
      go_wp2
      exact bodyPost_ret (v := .tuple #[.slice none 0 0, .bool false]) (by simp [results, Tryd.results26, go_sem]) rfl ⟨_, rfl, World.ownsRow_nil _ _ _ _, HB.out⟩
    · have hf : findI l o.a o.b < 0 := by
        rcases Decidable.em (findI l o.a o.b < 0) with h | h
        · exact h
        · rw [HDUP.out h] at hi; cases hi
      have hz : okW l o = true := by rw [HOK.out, ← HINS.out hf, hi]; simp [hf]
      rw [ansW_yes hz, hz, ← HINS.out hf]
      have HI := hideIt hi
      clear hi hz HOK HINS HDUP hf
      go_enter Tryd.func26, Tryd.ntmps26
      go_wp2_with fail
      refine (implOps_nil l HN.out x _ (errB HW.out.bel h0 he) (posB HW.out.bel h0)).mono ?_
      rintro e w1 ⟨rfl, hb1⟩
      rw [th_same, HO.out]
      have HW1 := hideIt (HW.out.below hb1)
      have HB := hideIt HW1.out.bel
      obtain ⟨b0, b1, b2, b3, b4, b5, b6⟩ := HW1.out.id
      clear hb1
      go_wp2_with fail
      refine (putIn_nil l HN.out o _).mono ?_
      rintro e w2 ⟨G, c, rfl, hO2, hb2⟩
      have HO2 := hideIt (show OwnOps w2 w.heap.size G c (insL l o) from ownsRow_base HB.out.size hO2)
      have HB := hideIt (Bstep HB.out hb2)
      clear hO2 hb2
      go_wp2_with fail
      refine (implOps_any (insL l o) G c x _ HO2.out.at (by rw [insL_len]; omega) HO2.out.cap (errB HB.out h0 he) (posB HB.out h0)).mono ?_
      rintro e w3 ⟨rfl, hb3⟩
      rw [th_same, HI.out]
      have HO3 := hideIt (HO2.out.below hb3)
      have HB := hideIt (Bstep HB.out hb3)
      clear hb3
      go_wp2
      exact bodyPost_ret (v := .tuple #[.slice (some ⟨G, 0, none⟩) (insL l o).length c, .bool true]) (by simp [results, Tryd.results26, go_sem]) rfl ⟨_, rfl, HO3.out, HB.out⟩
end Go.Proofs.YtedanlmippfojaaDoor

namespace Go.Proofs.YtedanlmippfojaaDoor
open Go.RowKit
set_option linter.unusedSimpArgs false
set_option linter.unusedVariables false

/-- A slice of things: nil, or at a block. -/
def OpsQ (W : World) (v : Value) (L : List Op7) : Prop := (v = .slice none 0 0 ∧ L = []) ∨ ∃ G c, v = .slice (some ⟨G, 0, none⟩) L.length c ∧ OpsAt W G L ∧ L.length ≤ c
theorem OpsQ.below {W W' : World} {v : Value} {L : List Op7} (h : OpsQ W v L) (hb : Below W.heap.size W W') : OpsQ W' v L := by
  rcases h with h | ⟨G, c, h1, h2, h3⟩
  · exact .inl h
  · exact .inr ⟨G, c, h1, h2.below hb h2.1, h3⟩
theorem OpsQ.own {W : World} {base : Nat} {v : Value} {L : List Op7} (h : W.ownsRow base 29 7 v L.length (opCells L)) : OpsQ W v L := by
  have h' := h
  rcases h.2 with ⟨e, e0⟩ | ⟨G, c, cur, e, _, _, h2, _⟩
  · exact .inl ⟨e, List.length_eq_zero_iff.1 e0⟩
  · subst e
    exact .inr ⟨G, c, rfl, OwnOps.at h', h2⟩
theorem OpsQ.len {W : World} {v : Value} {L : List Op7} (h : OpsQ W v L) : ∃ q c, v = .slice q L.length c ∧ L.length ≤ c := by
  rcases h with ⟨h, h1⟩ | ⟨G, c, h1, h2, h3⟩
  · exact ⟨none, 0, by rw [h, h1]; rfl, by rw [h1]; exact Nat.le_refl _⟩
  · exact ⟨_, c, h1, h3⟩

theorem implOps_q (l : List Op7) (v : Value) (x : Addr) (w : World) (hl : OpsQ w v l) (hn : l.length ≤ 1048576)
    (he : w.cell? ⟨0, 0, none⟩ = some (.iface 203 (.pointer (some x)))) (h0 : 0 < w.heap.size) :
    Calls Tryd.prog 36 #[v] w fun e w' => e = .returned (.bool (thB l)) ∧ Below w.heap.size w w' := by
  rcases hl with ⟨rfl, h1⟩ | ⟨G, c, rfl, h2, h3⟩
  · exact implOps_nil l h1 x w he h0
  · exact implOps_any l G c x w h2 hn h3 he h0
theorem implPut_q (l : List Op7) (v : Value) (r t sg : Int) (hwf : wf64 t) (x : Addr) (w : World) (hl : OpsQ w v l) (hn : l.length ≤ 1048576)
    (he : w.cell? ⟨0, 0, none⟩ = some (.iface 203 (.pointer (some x)))) (h0 : 0 < w.heap.size) :
    Calls Tryd.prog 17 #[v, .int .i64 r, .int .i64 t, .int .i64 sg] w fun e w' =>
      ((mayPut l r t sg = false ∧ e = .returned (.tuple #[.agg #[.int .i64 0, .int .i64 0, .int .i64 0, .int .i64 0, .int .i64 0, .int .i64 0, .int .i64 0], .bool false])) ∨
       (mayPut l r t sg = true ∧ e = .returned (.tuple #[opV (putO l r t.toNat sg), .bool true]))) ∧ Below w.heap.size w w' := by
  rcases hl with ⟨rfl, h1⟩ | ⟨G, c, rfl, h2, h3⟩
  · exact implPut_nil l h1 r t sg hwf x w he h0
  · exact implPut_any l G c r t sg hwf x w h2 hn h3 he h0
theorem implWith_q (l : List Op7) (v : Value) (o : Op7) (x : Addr) (w : World) (hl : OpsQ w v l) (hn : l.length ≤ 1048576)
    (he : w.cell? ⟨0, 0, none⟩ = some (.iface 203 (.pointer (some x)))) (h0 : 0 < w.heap.size) :
    Calls Tryd.prog 26 #[v, .agg #[.int .i64 o.a, .int .i64 o.b, .int .i64 o.k, .int .i64 o.c, .int .i64 o.d, .int .i64 o.s, .int .i64 o.g]] w fun e w' =>
      ∃ v, e = .returned (.tuple #[v, .bool (okW l o)]) ∧ w'.ownsRow w.heap.size 29 7 v (ansW l o).length (opCells (ansW l o)) ∧ Below w.heap.size w w' := by
  rcases hl with ⟨rfl, h1⟩ | ⟨G, c, rfl, h2, h3⟩
  · exact implWith_nil l h1 o x w he h0
  · exact implWith_any l G c o x w h2 hn h3 he h0
end Go.Proofs.YtedanlmippfojaaDoor

namespace Go.Proofs.YtedanlmippfojaaDoor
open Go.RowKit
set_option linter.unusedSimpArgs false
set_option linter.unusedVariables false
attribute [local go_sem ↓] Go.wp_at_zero Go.wp_at_succ store_op_new
attribute [-go_sem] Instr.storeAt

set_option maxRecDepth 100000 in
set_option maxHeartbeats 2000000 in
theorem implRun_any (l : List Op7) (g cap : Nat) (r t : Int) (s : ByteArray) (x : Addr) (w : World) (hl : OpsAt w g l) (hn : l.length ≤ 1048576) (hcap : l.length ≤ cap) (hs : s.size ≤ 1048576)
    (he : w.cell? ⟨0, 0, none⟩ = some (.iface 203 (.pointer (some x)))) (h0 : 0 < w.heap.size) :
    Calls Tryd.prog 29 #[.slice (some ⟨g, 0, none⟩) l.length cap, .int .i64 r, .int .i64 t, .string s] w fun e w' =>
      ∃ v, e = .returned (.tuple #[v, .bool (okR l r t s)]) ∧ w'.ownsRow w.heap.size 29 7 v (ansR l r t s).length (opCells (ansR l r t s)) ∧ Below w.heap.size w w' := by
  have HL := hideIt hl
  have hgw := hl.1
  clear hl
  obtain ⟨i0, hi, hz0', hz1', hz2⟩ := info_parts infoOp
  have HI1 := hideIt hi
  have HZ0 := hideIt hz0'
  have HZ1 := hideIt hz1'
  have HZ2 := hideIt hz2
  clear hi hz0' hz1' hz2
  cases ho : opsB l
  all_goals
    have HO := hideIt ho
    clear ho
    go_enter Tryd.func29, Tryd.ntmps29
    go_wp2_with fail
    refine (implOps_any l g cap x _ HL.out hn hcap he h0).mono ?_
    rintro e w1 ⟨rfl, hb1⟩
    rw [th_same, HO.out]
    have HB1 := hideIt hb1
    have HL1 := hideIt (HL.out.below hb1 hgw)
    clear hb1
  · obtain ⟨e1, e2⟩ := run_no (run_nops (r := r) (t := t) (s := s) HO.out)
    have HE1 := hideIt e1
    have HE2 := hideIt e2
    clear e1 e2
    go_wp2
    refine bodyPost_ret (v := .tuple #[.slice none 0 0, .bool false]) (by simp [results, Tryd.results29, go_sem]) rfl ?_
    rw [HE1.out, HE2.out]
    exact ⟨_, rfl, World.ownsRow_nil _ _ _ _, HB1.out⟩
  · by_cases hbig : 12 < s.size
    · obtain ⟨e1, e2⟩ := run_no (run_big (l := l) (r := r) (t := t) hbig)
      have HE1 := hideIt e1
      have HE2 := hideIt e2
      clear e1 e2
      have hbig' : (12 : Int) < (s.size : Int) := by omega
      go_wp2
      refine bodyPost_ret (v := .tuple #[.slice none 0 0, .bool false]) (by simp [results, Tryd.results29, go_sem]) rfl ?_
      rw [HE1.out, HE2.out]
      exact ⟨_, rfl, World.ownsRow_nil _ _ _ _, HB1.out⟩
    · have h36 := ops_36 HO.out
      have hbig' : ¬ ((12 : Int) < (s.size : Int)) := by omega
      have hs12 : s.size ≤ 12 := by omega
      have HST : Hid (w1.ownsRow w.heap.size 29 7 (.slice none 0 0) 0 []) := World.ownsRow_nil _ _ _ _
      have HC := hideIt HL1.out.cells
      have hz1 := HB1.out.size
      go_wp2_with (first
        | (at_builtin; refine wpList_append_own_at _ rfl _ _ 23 rfl w.heap.size 29 i0 _ 7 56 Tryd.underlying23 HI1.out HZ0.out HZ1.out HZ2.out rfl (by decide) _ _ _ rfl HST.out ⟨g, 0, none⟩ l.length cap (opCells l) rfl (opCells_len l) HC.out (opCells_one _) (by unfold maxLen; omega) (by omega) (by omega) ?_; intro v' w3 hown3 hg3 hnil3 _))
      have HS0 : Hid (w3.ownsRow w.heap.size 29 7 v' l.length (opCells l)) := by
        show w3.ownsRow _ _ _ _ _ _
        rw [Nat.zero_add, List.nil_append] at hown3
        exact hown3
      have HB3 := hideIt (below_grown HB1.out hg3 hz1 (fun j e => by cases e))
      clear hown3 hg3 hnil3
      go_loopw [10, 26] (fun v i wr => ∃ (k : Nat) (L : List Op7), k ≤ s.size ∧ i = .int .i64 k ∧ wr.ownsRow w.heap.size 29 7 v L.length (opCells L) ∧ runTo l r t s k = some L ∧ Below w.heap.size w wr)
        (fun _ i _ => s.size - (intOf i).toNat)
      case atStart => exact ⟨0, l, Nat.zero_le _, rfl, HS0.out, rfl, HB3.out⟩
      case round =>
        obtain ⟨k, L, hk, rfl, hS, hrun, hB⟩ := hrel
        have HRUN := hideIt hrun
        have hL36 := ops_36 (runTo_ok HO.out hrun)
        have HS := hideIt hS
        have HB := hideIt hB
        clear hS hB HS0 HB3 hrun
        by_cases hlt : k < s.size
        · have hlt' : (k : Int) < (s.size : Int) := by omega
          have hk0 : (0 : Int) ≤ (k : Int) := by omega
          go_wp2_with fail
          rw [byteAt_in hlt]
          refine (implPut_q L _ r _ _ (RowKit.wrap64_wf _) x wr (OpsQ.own HS.out) (by omega) (errB HB.out h0 he) (posB HB.out h0)).mono ?_
          rintro e w4 ⟨(⟨hm, rfl⟩ | ⟨hm, rfl⟩), hb4⟩
          · have HB4 := hideIt (Bstep HB.out hb4)
            obtain ⟨e1, e2⟩ := run_no (run_fail (runTo_no HRUN.out hm) (by omega))
            have HE1 := hideIt e1
            have HE2 := hideIt e2
            clear hb4 hm e1 e2
            go_wp2
            refine bodyPost_ret (v := .tuple #[.slice none 0 0, .bool false]) (by simp [results, Tryd.results29, go_sem]) rfl ?_
            rw [HE1.out, HE2.out]
            exact ⟨_, rfl, World.ownsRow_nil _ _ _ _, HB4.out.alloc HB4.out.size _⟩
          · have h36L := ops_36 (mayPut_ok hm)
            have HB4 := hideIt (Bstep HB.out hb4)
            have HS4 := hideIt (OpsQ.below (OpsQ.own HS.out) hb4)
            have HNX := hideIt (runTo_yes HRUN.out hm)
            have HOW := hideIt (put_done hm).1
            clear hb4 hm
            generalize putO L r _ _ = o at *
            unfold opV
            go_wp2_with fail
            refine (implWith_q L _ o x _ (HS4.out.below ((Below.refl _ _).alloc (Nat.le_refl _) _)) (by omega) (errB (HB4.out.alloc HB4.out.size _) h0 he) (posB (HB4.out.alloc HB4.out.size _) h0)).mono ?_
            rintro e w5 ⟨v5, rfl, hS5, hb5⟩
            rw [HOW.out]
            rw [ansW_yes HOW.out] at hS5
            have HS5 : Hid (w5.ownsRow w.heap.size 29 7 v5 (withL L o).length (opCells (withL L o))) := ownsRow_base (by have := HB4.out.size; simp; omega) hS5
            have HB5 := hideIt (Bstep (HB4.out.alloc HB4.out.size _) hb5)
            clear hS5 hb5
            go_wp2
            exact ⟨⟨k + 1, withL L o, by omega, by go_num, HS5.out, HNX.out, HB5.out⟩, by simp [intOf]; omega⟩
        · obtain rfl : k = s.size := by omega
          obtain ⟨e1, e2⟩ := run_yes (run_some HO.out hs12 HRUN.out)
          have HE1 := hideIt e1
          have HE2 := hideIt e2
          clear e1 e2
          go_wp2
          refine bodyPost_ret (v := .tuple #[u10, .bool true]) (by simp [results, Tryd.results29, go_sem]) rfl ?_
          rw [HE1.out, HE2.out]
          exact ⟨_, rfl, HS.out, HB.out⟩
end Go.Proofs.YtedanlmippfojaaDoor

namespace Go.Proofs.YtedanlmippfojaaDoor
open Go.RowKit
set_option linter.unusedVariables false

/-- The text of what was done. -/
def txtL (l : List Op7) : ByteArray := txtB (shown (lfs l (standL l)))
theorem by_ext {a b : ByteArray} (h : a.data.toList = b.data.toList) : a = b := by
  cases a; cases b
  simp only [ByteArray.mk.injEq]
  exact Array.ext' h
theorem by_app (a b : ByteArray) : (a ++ b).data.toList = a.data.toList ++ b.data.toList := by simp
theorem by_ext_cut (a : ByteArray) (i j : Nat) : (a.extract i j).data.toList = (a.data.toList.drop i).take (j - i) := by
  simp [ByteArray.data_extract, Array.toList_extract, List.extract]
theorem by_all (T : ByteArray) : T.extract 0 T.size = T := by
  apply by_ext
  rw [by_ext_cut]
  simp only [List.drop_zero, Nat.sub_zero]
  exact List.take_of_length_le (by simp)
theorem by_len (a : ByteArray) : a.data.toList.length = a.size := by simp
/-- The byte, as a text of its own. -/
theorem txt_byte {s : ByteArray} {k : Nat} (h : k < s.size) : (txtB [byteAt s k]).data.toList = [s[k]] := by
  have e : byteAt s k = ((s[k].toNat : Nat) : Int) := by
    rw [← byteAt_in h]
    have := s[k].toNat_lt
    exact IntWalk.wrap64_in _ ⟨by omega, by omega⟩
  rw [e]
  simp [txtB]
theorem by_more {s : ByteArray} {k : Nat} (h : k < s.size) : s.extract 0 k ++ txtB [byteAt s k] = s.extract 0 (k + 1) := by
  apply by_ext
  rw [by_app, by_ext_cut, by_ext_cut, txt_byte h]
  have hl : k < s.data.toList.length := by rw [by_len]; exact h
  simp only [List.drop_zero, Nat.sub_zero]
  rw [List.take_succ_eq_append_getElem hl]
  congr 1
/-- A text, cut at a place, with a beginning of a run there: with one letter more, one place on. -/
theorem by_step {T s : ByteArray} {t k : Nat} (ht : t ≤ T.size) (hk : k < s.size) :
    (T.extract 0 t ++ s.extract 0 k ++ T.extract t T.size).extract 0 (t + k) ++ txtB [byteAt s k] ++ (T.extract 0 t ++ s.extract 0 k ++ T.extract t T.size).extract (t + k) (T.extract 0 t ++ s.extract 0 k ++ T.extract t T.size).size = T.extract 0 t ++ s.extract 0 (k + 1) ++ T.extract t T.size := by
  rw [← by_more hk]
  apply by_ext
  simp only [by_app, by_ext_cut]
  have h1 : (T.data.toList.take t).length = t := by rw [List.length_take, by_len]; omega
  have h2 : (s.data.toList.take k).length = k := by rw [List.length_take, by_len]; omega
  have h3 : (T.extract 0 t ++ s.extract 0 k ++ T.extract t T.size).size = t + k + (T.size - t) := by
    rw [← by_len]
    simp only [by_app, by_ext_cut, List.length_append, List.drop_zero, Nat.sub_zero]
    rw [h1, h2, List.length_take, List.length_drop, by_len]
    omega
  rw [h3]
  simp only [List.drop_zero, Nat.sub_zero]
  have h4 : (T.data.toList.take t ++ s.data.toList.take k).length = t + k := by rw [List.length_append, h1, h2]
  rw [List.take_append_of_le_length (by omega), List.take_of_length_le (by omega), List.drop_append_of_le_length (by omega), List.drop_of_length_le (by omega)]
  simp only [List.nil_append, List.append_assoc]
  have h5 : (List.take (T.size - t) (List.drop t T.data.toList)) = List.drop t T.data.toList := List.take_of_length_le (by rw [List.length_drop, by_len]; omega)
  rw [h5, List.take_of_length_le (l := List.drop t T.data.toList) (by rw [List.length_drop, by_len]; omega)]
theorem by_zero {T s : ByteArray} {t : Nat} : T = T.extract 0 t ++ s.extract 0 0 ++ T.extract t T.size := by
  apply by_ext
  simp only [by_app, by_ext_cut]
  simp only [List.drop_zero, Nat.sub_zero, List.take_zero, List.append_nil, Nat.sub_self]
  rw [List.take_of_length_le (l := List.drop t T.data.toList) (by rw [List.length_drop, by_len]; omega), List.take_append_drop]

theorem with_more {l : List Op7} {o : Op7} (h : okW l o = true) : (withL l o).length = l.length + 1 := by
  unfold okW at h
  simp only [Bool.and_eq_true, decide_eq_true_eq] at h
  obtain ⟨A, B, h1, h2⟩ := withL_split (ops_sorted h.1) (find_new h.2.1)
  rw [h2]
  conv => rhs; rw [h1]
  simp only [List.length_append, List.length_cons]
  omega
/-- Behind so many letters: the text, and how many things there are. -/
theorem run_text {l : List Op7} {r t : Int} {s : ByteArray} (h0 : 0 ≤ t) (h1 : t ≤ 1000) (hs : s.size ≤ 12) : ∀ {k : Nat} {L : List Op7}, k ≤ s.size → t.toNat ≤ (txtL l).size → runTo l r t s k = some L →
    L.length = l.length + k ∧ txtL L = (txtL l).extract 0 t.toNat ++ s.extract 0 k ++ (txtL l).extract t.toNat (txtL l).size
  | 0, L, _, ht, h => by
    simp only [runTo] at h; cases h
    exact ⟨rfl, by_zero⟩
  | k + 1, L, hk, ht, h => by
    simp only [runTo] at h
    cases hx : runTo l r t s k with
    | none => rw [hx] at h; cases h
    | some M =>
      rw [hx] at h
      simp only at h
      split at h
      · rename_i hm
        cases h
        obtain ⟨i1, i2⟩ := run_text h0 h1 hs (by omega) ht hx
        have hw : wrap64 (t + (k : Int)) = t + (k : Int) := IntWalk.wrap64_in _ ⟨by omega, by omega⟩
        rw [hw] at hm ⊢
        obtain ⟨f1, f2, f3, f4, f5, f6⟩ := put_done hm
        refine ⟨by rw [with_more f1, i1]; omega, ?_⟩
        have e : (t + (k : Int)).toNat = t.toNat + k := by omega
        rw [e] at f6
        show txtL _ = _
        unfold txtL at i2 ⊢
        rw [e, f6, i2]
        exact by_step ht (by omega)
      · cases h
theorem run_place {l : List Op7} {r t : Int} {s : ByteArray} (h0 : 0 ≤ t) (h1 : t ≤ 1000) : ∀ {k : Nat} {L : List Op7}, runTo l r t s (k + 1) = some L → t.toNat ≤ (txtL l).size
  | 0, L, h => by
    simp only [runTo] at h
    split at h
    · rename_i hm
      have hw : wrap64 (t + ((0 : Nat) : Int)) = t := by rw [show t + ((0 : Nat) : Int) = t by simp]; exact IntWalk.wrap64_in _ ⟨by omega, by omega⟩
      rw [hw] at hm
      exact (put_done hm).2.2.2.1.2
    · cases h
  | k + 1, L, h => by
    rw [runTo] at h
    cases hx : runTo l r t s (k + 1) with
    | none => rw [hx] at h; cases h
    | some M => exact run_place h0 h1 hx
/-- What is told of a run, where it is told. -/
theorem run_there {l L : List Op7} {r t : Int} {s : ByteArray} (h0 : 0 ≤ t) (h1 : t ≤ 1000) (h : runR l r t s = some L) : opsB l = true ∧ opsB L = true ∧ s.size ≤ 12 ∧ L.length = l.length + s.size ∧
    (s.size = 0 → L = l) ∧ (0 < s.size → t.toNat ≤ (txtL l).size ∧ txtL L = (txtL l).extract 0 t.toNat ++ s ++ (txtL l).extract t.toNat (txtL l).size) := by
  unfold runR at h
  split at h
  · rename_i hh
    refine ⟨hh.1, runTo_ok hh.1 h, hh.2, ?_, ?_, ?_⟩
    · rcases Nat.eq_zero_or_pos s.size with hz | hz
      · rw [hz] at h ⊢
        simp only [runTo] at h; cases h; rfl
      · obtain ⟨k, hk⟩ : ∃ k, s.size = k + 1 := ⟨s.size - 1, by omega⟩
        have hp := run_place h0 h1 (k := k) (by rw [← hk]; exact h)
        exact (run_text h0 h1 hh.2 (Nat.le_refl _) hp h).1
    · intro hz
      rw [hz] at h
      simp only [runTo] at h; cases h; rfl
    · intro hz
      obtain ⟨k, hk⟩ : ∃ k, s.size = k + 1 := ⟨s.size - 1, by omega⟩
      have hp := run_place h0 h1 (k := k) (by rw [← hk]; exact h)
      refine ⟨hp, ?_⟩
      rw [(run_text h0 h1 hh.2 (Nat.le_refl _) hp h).2, by_all s]
  · cases h
theorem ansR_small (l : List Op7) (r t : Int) (s : ByteArray) : (ansR l r t s).length ≤ 36 := by
  cases h : runR l r t s with
  | none => rw [(run_no h).2]; simp
  | some L =>
    rw [(run_yes h).2]
    unfold runR at h
    split at h
    · rename_i hh
      exact ops_36 (runTo_ok hh.1 h)
    · cases h
end Go.Proofs.YtedanlmippfojaaDoor

namespace Go.Proofs.YtedanlmippfojaaDoor
open Go.RowKit Go.Shelf
set_option linter.unusedSimpArgs false
set_option linter.unusedVariables false
attribute [local go_sem] Oper.semAt_some

theorem infoU8 : (Tryd.prog.info? 5).map (fun i => (i.zero, i.size, i.bytes)) = some (some (.int .u8 0), 1, 1) := by kernel_rfl

/-- A row of bytes, as a text. -/
theorem conv_row {W : World} {base : Nat} {v : Value} {gs : List Int} (h : W.ownsRow base 5 1 v gs.length (gs.map (.int .u8))) : (convert 22 9 v).run Tryd.prog W = .ok (.string (txtB gs)) W := by
  have hat : ∀ j, j < gs.length * 1 → ∀ g c, v = .slice (some ⟨g, 0, none⟩) gs.length c → W.cell? ⟨g, j, none⟩ = (gs.map (Value.int .u8))[j]? := fun j hj g c e => by subst e; exact h.cellAt j hj
  rcases h.2 with ⟨rfl, h0⟩ | ⟨g, c, cur, rfl, _⟩
  · rw [run_convert_bytes_nil (P := Tryd.prog) W 22 5 Tryd.underlying22 Tryd.underlying5 0 0 9 Tryd.underlying9]
    cases gs with
    | nil => rfl
    | cons a t => simp at h0
  · rw [run_convert_bytes_arg (P := Tryd.prog) W 22 5 Tryd.underlying22 Tryd.underlying5 g 0 gs.length c gs rfl (fun i hi => by
      rw [Nat.zero_add, hat i (by omega) g c rfl]
      simp [List.getD, hi]) 9 Tryd.underlying9]
    rfl

set_option maxRecDepth 100000 in
set_option maxHeartbeats 2000000 in
theorem implTxt_in (l : List Op7) (g cap n : Nat) (h3 : 3 ≤ n) (x : Addr) (w : World) (hl : OpsAt w g l) (hn : l.length ≤ 1048576) (hcap : l.length ≤ cap)
    (he : w.cell? ⟨0, 0, none⟩ = some (.iface 203 (.pointer (some x)))) (h0 : 0 < w.heap.size) :
    CallsIn Fence.wide n Tryd.prog 23 #[.slice (some ⟨g, 0, none⟩) l.length cap] w fun e w' => e = .returned (.string (txtB (shown (lfs l (standL l))))) ∧ Below w.heap.size w w' := by
  have HL := hideIt hl
  have h1 : 1 ≤ n := by omega
  clear hl
  refine callsIn_of_wp_marks Tryd.func23 rfl trivial ?_ rfl
  simp only [Tryd.ntmps23, List.size_toArray, List.length_cons, List.length_nil, Nat.reduceAdd, Nat.reduceSub, Array.replicate_succ, Array.replicate_zero, List.push_toArray, List.append_toArray, List.nil_append, List.cons_append]
  gi_wp2
  refine ⟨trivial, ?_⟩
  refine (callsIn_wide.2 (treeOf_any l g cap x _ HL.out hn hcap he h0)).mono ?_
  rintro e w1 ⟨(⟨ht, b1, b2, b3, base, rfl, hT⟩ | ⟨ht, rfl⟩), hb1⟩
  all_goals
    have HO := hideIt ht
    have HB1 := hideIt hb1
    have herr1 : w1.cell? ⟨0, 0, none⟩ = some (.iface 203 (.pointer (some x))) := errB HB1.out h0 he
    have hp1 : 0 < w1.heap.size := posB HB1.out h0
    clear ht hb1
  · have HTT := hideIt hT
    have HE : Hid (standL l = allO l) := by show standL l = allO l; unfold standL; rw [HO.out]; rfl
    clear hT
    gi_wp2
    refine ⟨trivial, ?_⟩
    refine (callsIn_wide.2 (is_nil x _)).mono ?_
    rintro e w'' ⟨rfl, rfl⟩
    gi_wp2
    refine ⟨trivial, ?_⟩
    refine (callsIn_wide.2 (leaves_any _ _ _ _ ⟨rfl, rfl, rfl⟩ b1 b2 b3 ⟨rfl, rfl, rfl⟩)).mono ?_
    rintro e w2 ⟨rfl, rfl⟩
    gi_wp2
    obtain ⟨Wb, hWb⟩ : ∃ Wb, (((w1.alloc (.cells #[.map (some b1), .map (some b2), .map (some b3)] 107)).alloc (.cells #[.slice none 0 0] 22)).alloc (.cells #[.map (some b1), .map (some b2), .map (some b3)] 107)) = Wb := ⟨_, rfl⟩
    have hsz : Wb.heap.size = w1.heap.size + 1 + 1 + 1 := by rw [← hWb]; simp
    have hBw : Below w1.heap.size w1 Wb := by rw [← hWb]; exact (((Below.refl _ _).alloc (Nat.le_refl _) _).alloc (by simp) _).alloc (by simp; omega) _
    have hbox : Boxed Wb (w1.heap.size + 1) 22 (.slice none 0 0) := by
      rw [← hWb]
      have h := Boxed.new (w1.alloc (.cells #[.map (some b1), .map (some b2), .map (some b3)] 107)) 22 (.slice none 0 0)
      rw [World.size_alloc] at h
      exact h.alloc _
    have hblk : Wb.heap[w1.heap.size + 1 + 1]? = some (.cells #[.map (some b1), .map (some b2), .map (some b3)] 107 (0, 0)) := by
      rw [← hWb]
      have h := World.alloc_heap_new ((w1.alloc (.cells #[.map (some b1), .map (some b2), .map (some b3)] 107)).alloc (.cells #[.slice none 0 0] 22)) (.cells #[.map (some b1), .map (some b2), .map (some b3)] 107)
      rw [World.size_alloc, World.size_alloc] at h
      exact h
    rw [hWb]
    have HSQ := hideIt (leaves_stops l HO.out hn w1 b1 b2 b3 base HTT.out (n - 1) (w1.heap.size + 1 + 1) Wb hBw hblk)
    have hlen : (allO l).length ≤ 1048576 := Nat.le_trans (all_len HO.out) hn
    obtain ⟨i0, hi, hz0, hz1, hz2⟩ := info_parts infoU8
    have HI1 := hideIt hi
    have HZ0 := hideIt hz0
    have HZ1 := hideIt hz1
    have HZ2 := hideIt hz2
    clear hi hz0 hz1 hz2 HTT HL hWb hblk he herr1
    generalize hBt : w1.heap.size + 1 + 1 = Bt at *
    generalize hQ : w1.heap.size + 1 = Q1 at *
    generalize hn1 : w1.heap.size = n1 at *
    refine wpIn_rangeFunc_ownH rfl h1 (gf := 118) (lb := #[.pointer (some ⟨Bt, 0, none⟩)]) rfl trivial (enters_of Tryd.func118 (by kernel_rfl) rfl) HSQ.out
      (fun h k => h.trans k) (kpT_b (by omega)) (Below.refl _ _) (fun _ => rfl)
      (fun pre W => (∃ v, Boxed W Q1 22 v ∧ W.ownsRow n1 5 1 v (shown pre).length ((shown pre).map (.int .u8)) ∧ True) ∧ Below n1 w1 W)
      (fun _ _ _ => False)
      (OwnFrom.and (Own.from (holdsRow_own n1 Q1 22 5 1 (fun pre : List Lf => (shown pre).length) (fun pre => (shown pre).map (.int .u8)) (fun _ _ => True)) _) (ownFrom_below (by omega) (by omega)))
      (fun _ _ _ _ _ hs _ _ => hs)
      ⟨⟨_, hbox, World.ownsRow_nil _ _ _ _, trivial⟩, hBw⟩
      (fun x' a' W => ∃ Bx, Q1 + 1 ≤ Bx ∧ W.heap[Bx]? = some (.cells #[.int .i64 x'.a, .int .i64 x'.b, .int .i64 x'.g, .bool x'.z] 44 (0, 0)) ∧ a' =
        { tmps := #[Value.slice (some { block := g, off := 0 }) l.length cap, undef, Value.string { data := #[] },
          Value.pointer (some { block := n1, off := 0 }), Value.nilIface,
          Value.pointer (some { block := Q1, off := 0 }), Value.pointer (some { block := Bx, off := 0 }),
          Value.tuple #[Value.agg #[Value.map (some b1), Value.map (some b2), Value.map (some b3)], Value.nilIface],
          Value.slice (some { block := g, off := 0 }) l.length cap,
          Value.tuple #[Value.agg #[Value.map (some b1), Value.map (some b2), Value.map (some b3)], Value.nilIface],
          Value.agg #[Value.map (some b1), Value.map (some b2), Value.map (some b3)], Value.nilIface, Value.nilIface,
          Value.iface 203 (Value.pointer (some x)), Value.bool false,
          Value.agg #[Value.map (some b1), Value.map (some b2), Value.map (some b3)],
          Value.func (Fn.func 118) #[] #[Value.pointer (some { block := Bt, off := 0 })], lfV x', undef,
          undef, undef, undef, undef, undef, undef, undef, undef, undef, undef], defers := [] })
      ?hAx ?assign ?body ?done ?stop
    case hAx =>
      rintro x' a' _ A B row ⟨Bx, hb, hx, ha⟩ hg hr
      exact ⟨Bx, hb, (hg.block Bx (Array.getElem?_eq_some_iff.1 hx).1 (fun e => by obtain ⟨_, o, ho, hc⟩ := hr Bx e.symm; rw [hx] at ho; cases ho; cases hc)).trans hx, ha⟩
    case assign =>
      rintro lp pre x' W K ⟨⟨v, bv, hrow, _⟩, hBl⟩ hK
      unfold lfV
      gi_wp2
      exact hK _ _ ((KeepsOthers.alloc _ _).from _) (KpT.of_below (by have := hBl.size; omega) ((Below.refl _ _).alloc (Nat.le_refl _) _)) ⟨⟨v, bv.alloc _, hrow.alloc _, trivial⟩, hBl.alloc (by have := hBl.size; omega) _⟩ ⟨W.heap.size, by have := bv.lt; omega, World.alloc_heap_new _ _, rfl⟩
    case body =>
      rintro lp pre x' a' W hl ⟨rr, hr⟩ ⟨⟨v, bv, hrow, _⟩, hBl⟩ ⟨Bx, hbx, hx, rfl⟩ hlt
      have hc := bv.cell
      have x0 := (blk_cell hx 0).trans rfl
      have x1 := (blk_cell hx 1).trans rfl
      have x2 := (blk_cell hx 2).trans rfl
      have x3 := (blk_cell hx 3).trans rfl
      have HRW := hideIt hrow
      have HBL := hideIt hBl
      have HBV := hideIt bv
      have hwl : n1 ≤ W.heap.size := by have := hBl.size; omega
      have hsl : (shown pre).length ≤ 1048576 := Nat.le_trans (shown_len _) (by omega)
      have hgone : Hid (x'.z = true → shown (pre ++ [x']) = shown pre) := shown_gone
      have hthere : Hid (x'.z = false → shown (pre ++ [x']) = shown pre ++ [x'.g % 256]) := shown_there
      have HX := hideIt hx
      clear hrow hBl hr hx
      generalize x'.a = xa at *
      generalize x'.b = xb at *
      generalize hxg : x'.g = xg at *
      generalize hxz : x'.z = xz at *
      cases xz
      · have hth := hideIt (hthere.out rfl)
        clear hgone hthere
        gi_wp2_with (first
          | (gi_at_builtin; refine wpListIn_append_own _ rfl _ _ 22 rfl n1 5 i0 _ 1 1 Tryd.underlying22 HI1.out HZ0.out HZ1.out HZ2.out rfl (by decide) _ _ _ rfl (HRW.out.alloc _) ⟨W.heap.size, 0, none⟩ 1 1 [.int .u8 (xg % 256)] rfl rfl (cells_new W [.int .u8 (xg % 256)] 5) (by intro u hu; simp at hu; subst hu; rfl) (by unfold maxLen; omega) (by omega) (by simp; omega) ?_; intro v' w2 hown' hgrow _; obtain ⟨g', cap', rfl⟩ := ownsRow_succ hown'; obtain ⟨hv1, hv2, hr2, hk2, hb2⟩ := HBV.out.appended (by decide) HRW.out hwl (by omega) hown' hgrow; have hc1 := hv1.cell; have hf1 := hv1.frozen;
              have HKP : Hid (KpT n1 W (w2.setCell ⟨Q1, 0, none⟩ (.slice (some ⟨g', 0, none⟩) ((shown pre).length + 1) cap'))) := (KpT.of_below (by omega) ((Below.refl _ _).alloc (Nat.le_refl _) _)).trans ((kpT_row (by simp; omega) hgrow (fun j e => ⟨(HRW.out.lt j e).1, own_type (HRW.out.alloc _) e (by decide)⟩)).trans (kpT_row (by have := hgrow.size; simp at this; omega) (grownBy_setCell' _ _ _) (fun j e => by cases e; exact ⟨by omega, _, _, _, hv1, by decide⟩)));
              have HV2 := hideIt hv2; have HR2 := hideIt hr2; have HK2 := hideIt hk2; have HB2 := hideIt hb2; clear hv2 hr2 hk2 hb2 hv1 hown' hgrow)
          | gi_in)
        exact ⟨HK2.out.from _, HKP.out, ⟨_, HV2.out, by rw [hth.out, List.length_append, List.map_append]; exact HR2.out, trivial⟩, HBL.out.trans HB2.out⟩
      · have hgo := hideIt (hgone.out rfl)
        clear hgone hthere
        gi_wp2
        exact ⟨(KeepsOthers.refl _).from _, KpT.refl _ _, ⟨_, HBV.out, by rw [hgo.out]; exact HRW.out, trivial⟩, HBL.out⟩
    case done =>
      rintro D ys W hD rfl ⟨⟨v, bv, hrow, _⟩, hBl⟩ hK
      have hc := bv.cell
      have hrow' := hrow
      rw [hsz] at hD
      have hcv : Hid (∀ v', v' = v → (convert 22 9 v').run Tryd.prog W = .ok (.string (txtB (shown (lfs l (allO l))))) W) := by
        show ∀ v', v' = v → _
        rintro _ rfl
        exact conv_row hrow
      rcases hrow.2 with ⟨rfl, hz⟩ | ⟨g', cap', cur', rfl, hrest⟩
      all_goals
        have kc := hcv.out _ rfl
        generalize hTT : txtB (shown (lfs l (allO l))) = TT at *
        gi_wp2
        refine ⟨by simp, .inl ⟨_, _, rfl, run_takeDeferred hK, ?_⟩⟩
        exact ⟨_, results_tmp rfl _ _ _, by rw [HE.out, hTT]; rfl, Bstep HB1.out (hn1.symm ▸ hBl.trans (belowK_b (w := Wb) (by omega) W D _ _ (by omega) hK rfl rfl))⟩
    case stop =>
      rintro D c pre W _ _ h _
      exact h.elim
  · have HE : Hid (standL l = []) := by show standL l = []; unfold standL; rw [HO.out]; rfl
    gi_wp2
    refine ⟨trivial, ?_⟩
    refine (callsIn_wide.2 (is_same x _)).mono ?_
    rintro e w'' ⟨rfl, rfl⟩
    gi_wp2
    rw [HE.out]
    exact ⟨_, results_tmp rfl _ _ _, rfl, HB1.out.alloc HB1.out.size _⟩
theorem implTxt_any (l : List Op7) (g cap : Nat) (x : Addr) (w : World) (hl : OpsAt w g l) (hn : l.length ≤ 1048576) (hcap : l.length ≤ cap)
    (he : w.cell? ⟨0, 0, none⟩ = some (.iface 203 (.pointer (some x)))) (h0 : 0 < w.heap.size) :
    Calls Tryd.prog 23 #[.slice (some ⟨g, 0, none⟩) l.length cap] w fun e w' => e = .returned (.string (txtB (shown (lfs l (standL l))))) ∧ Below w.heap.size w w' :=
  callsIn_wide.1 (implTxt_in l g cap 3 (Nat.le_refl _) x w hl hn hcap he h0)
end Go.Proofs.YtedanlmippfojaaDoor

namespace Go.Proofs.YtedanlmippfojaaDoor
open Go.RowKit
set_option linter.unusedSimpArgs false
set_option linter.unusedVariables false

theorem lfs_get {l A : List Op7} {k : Nat} (hk : k < (lfs l A).length) : ∃ p, A[k]? = some p ∧ (lfs l A)[k] = ⟨p.a, p.b, p.g, goneB l (p.a, p.b)⟩ := by
  unfold lfs at *
  rw [List.length_map] at hk
  exact ⟨A[k], by simp [hk], by simp⟩
theorem atOr_iff (l : List Op7) (p q : Op7) : atOrB l p q = true ↔ (q.a = p.a ∧ q.b = p.b) ∨ undB l q.a q.b p.a p.b = true := by
  unfold atOrB
  simp only [Bool.or_eq_true, Bool.and_eq_true, beq_iff_eq]
theorem whole_leaves {l : List Op7} (h : opsB l = true) {j : Nat} (hj : j < (lfs l (allO l)).length) : ∃ lo hi, lo < hi ∧ hi ≤ (lfs l (allO l)).length ∧ ∀ i (hi' : i < (lfs l (allO l)).length), (((lfs l (allO l))[i].a = (lfs l (allO l))[j].a ∧ (lfs l (allO l))[i].b = (lfs l (allO l))[j].b) ∨ undB l (lfs l (allO l))[i].a (lfs l (allO l))[i].b (lfs l (allO l))[j].a (lfs l (allO l))[j].b = true) ↔ (lo ≤ i ∧ i < hi) := by
  obtain ⟨p, hp, ep⟩ := lfs_get hj
  obtain ⟨lo, hi, h1, h2, h3⟩ := whole_all h (List.mem_of_getElem? hp)
  refine ⟨lo, hi, h1, by rw [lfs_len]; exact h2, fun i hi' => ?_⟩
  obtain ⟨q, hq, eq⟩ := lfs_get hi'
  rw [ep, eq, ← h3 i q hq, atOr_iff]
theorem side_leaves {l : List Op7} (h : opsB l = true) {o : Op7} (ho : o ∈ l) (hk : o.k = 1) (h0 : ¬ (o.c = 0 ∧ o.d = 0)) : ∃ t : Nat, t < (lfs l (allO l)).length ∧ atI (lfs l (allO l)) o.c o.d = (t : Nat) ∧ ∀ i (hi : i < (lfs l (allO l)).length), (((lfs l (allO l))[i].a = o.a ∧ (lfs l (allO l))[i].b = o.b) ∨ undB l (lfs l (allO l))[i].a (lfs l (allO l))[i].b o.a o.b = true) → (t < i ↔ o.s = 1) := by
  obtain ⟨d, hd⟩ := put_up h ho
  rcases up_inv hd with ⟨_, hx⟩ | ⟨e, p, _, hm, hpk, _, hx⟩
  · exact absurd ⟨congrArg Prod.fst hx, congrArg Prod.snd hx⟩ h0
  · have ha : o.c = p.a := congrArg Prod.fst hx
    have hb : o.d = p.b := congrArg Prod.snd hx
    obtain ⟨t, ht, h1, h2⟩ := put_leaf h hm hpk
    obtain ⟨p', hp', ep⟩ := lfs_get ht
    have e1 : p' = p := by
      rw [ep] at h2
      exact once_eq (once_ops h) (side_put _ (List.mem_of_getElem? hp')).1 hm (congrArg Lf.a h2) (congrArg Lf.b h2)
    subst e1
    refine ⟨t, ht, by rw [ha, hb]; exact h1, fun i hi hor => ?_⟩
    obtain ⟨q, hq, eq⟩ := lfs_get hi
    rw [eq] at hor
    exact side_all h ho hk hm hpk ha.symm hb.symm hq hp' ((atOr_iff l o q).2 hor)
/-- The first, the last, and how many of the first k stand from lo to hi. -/
def fstI (lo : Nat) (k : Nat) : Int := if k ≤ lo then -1 else lo
def lstI (lo hi : Nat) (k : Nat) : Int := if k ≤ lo then -1 else (min k hi : Nat) - 1
def numI (lo hi : Nat) (k : Nat) : Int := (min k hi - min k lo : Nat)
theorem fstI_out {lo hi k : Nat} (h : ¬ (lo ≤ k ∧ k < hi)) (hl : lo < hi) : fstI lo (k + 1) = fstI lo k ∧ lstI lo hi (k + 1) = lstI lo hi k ∧ numI lo hi (k + 1) = numI lo hi k := by
  unfold fstI lstI numI
  refine ⟨?_, ?_, ?_⟩
  · split <;> split <;> omega
  · split <;> split <;> omega
  · omega
theorem fstI_in {lo hi k : Nat} (h : lo ≤ k ∧ k < hi) : fstI lo (k + 1) = lo ∧ lstI lo hi (k + 1) = k ∧ numI lo hi (k + 1) = numI lo hi k + 1 ∧ ((k = lo ∧ fstI lo k = -1) ∨ fstI lo k = lo) := by
  unfold fstI lstI numI
  refine ⟨?_, ?_, ?_, ?_⟩
  · split <;> omega
  · split <;> omega
  · omega
  · by_cases e : k = lo
    · exact .inl ⟨e, by rw [if_pos (by omega)]⟩
    · exact .inr (by rw [if_neg (by omega)])
theorem fstI_end {lo hi k : Nat} (h : lo < hi) (hk : hi ≤ k) : fstI lo k = lo ∧ lstI lo hi k = (hi : Int) - 1 ∧ numI lo hi k = (hi : Int) - lo := by
  unfold fstI lstI numI
  refine ⟨?_, ?_, ?_⟩
  · split <;> omega
  · split <;> omega
  · omega
theorem numI_le (lo hi k : Nat) : 0 ≤ numI lo hi k ∧ numI lo hi k ≤ k := by unfold numI; omega
/-- The cells of a leaf. -/
theorem lf_at {w : World} {base g c : Nat} {F : List Lf} (h : w.ownsRow base 44 4 (.slice (some ⟨g, 0, none⟩) F.length c) F.length (lfCells F)) {k : Nat} {y : Lf} (hk : F[k]? = some y) : w.cell? ⟨g, k * 4, none⟩ = some (.int .i64 y.a) ∧ w.cell? ⟨g, k * 4 + 1, none⟩ = some (.int .i64 y.b) ∧ w.cell? ⟨g, k * 4 + 2, none⟩ = some (.int .i64 y.g) ∧ w.cell? ⟨g, k * 4 + 3, none⟩ = some (.bool y.z) := by
  have hl := (List.getElem?_eq_some_iff.1 hk).1
  obtain ⟨h0, h1, h2, h3⟩ := lfCells_at F k y hk
  exact ⟨(World.ownsRow.cellAt h _ (by omega)).trans h0, (World.ownsRow.cellAt h _ (by omega)).trans h1, (World.ownsRow.cellAt h _ (by omega)).trans h2, (World.ownsRow.cellAt h _ (by omega)).trans h3⟩
end Go.Proofs.YtedanlmippfojaaDoor

namespace Go.Proofs.YtedanlmippfojaaDoor
open Go.RowKit
set_option linter.unusedSimpArgs false
set_option linter.unusedVariables false
attribute [local go_sem ↓] Go.wp_at_zero Go.wp_at_succ

theorem oprow {w : World} {base : Nat} {v : Value} {L : List Op7} (h : w.ownsRow base 29 7 v L.length (opCells L)) : ∃ q c, v = .slice q L.length c ∧ (0 < L.length → ∃ g, q = some ⟨g, 0, none⟩ ∧ L.length ≤ c ∧ base ≤ g ∧ g < w.heap.size ∧ ∀ j, j < L.length * 7 → w.cell? ⟨g, j, none⟩ = (opCells L)[j]?) := by
  rcases h.2 with ⟨e, e0⟩ | ⟨g', c', cur, e, hb, hg, h2, _⟩
  · exact ⟨none, 0, by rw [e, e0], fun h => by omega⟩
  · subst e
    exact ⟨some ⟨g', 0, none⟩, c', rfl, fun _ => ⟨g', rfl, h2, hb, (Array.getElem?_eq_some_iff.1 hg).1, fun j hj => World.ownsRow.cellAt h j hj⟩⟩

set_option maxRecDepth 100000 in
set_option maxHeartbeats 1000000 in
theorem ltOps_rows (L : List Op7) (v1 v2 : Value) (base1 base2 : Nat) (w : World) (h1 : w.ownsRow base1 29 7 v1 L.length (opCells L)) (h2 : w.ownsRow base2 29 7 v2 L.length (opCells L)) (hn : L.length ≤ 1048576) :
    Calls Tryd.prog 30 #[v1, v2] w fun e w' => e = .returned (.bool true) ∧ Below w.heap.size w w' := by
  obtain ⟨q1, c1, rfl, hq1⟩ := oprow h1
  obtain ⟨q2, c2, rfl, hq2⟩ := oprow h2
  have HQ1 := hideIt hq1
  have HQ2 := hideIt hq2
  clear h1 h2 hq1 hq2
  go_enter Tryd.func30, Tryd.ntmps30
  go_wp2
  go_loopw [5] (fun i wr => ∃ k : Nat, k ≤ L.length ∧ i = .int .i64 k ∧ Below w.heap.size w wr) (fun i _ => L.length - (intOf i).toNat)
  case atStart => exact ⟨0, Nat.zero_le _, rfl, by go_grown⟩
  case round =>
    obtain ⟨k, hk, rfl, hB⟩ := hrel
    have HB := hideIt hB
    by_cases hlt : k < L.length
    · obtain ⟨g1, rfl, hc1, hb1, hg1, hx1⟩ := HQ1.out (by omega)
      obtain ⟨g2, rfl, hc2, hb2, hg2, hx2⟩ := HQ2.out (by omega)
      obtain ⟨i0, i1, i2, i3, i4, i5, i6⟩ := opCells_at L k L[k] (by simp [hlt])
      have y0 := ((bcell hB).1 g1 _ hg1).trans ((hx1 (k * 7) (by omega)).trans i0)
      have y1 := ((bcell hB).1 g1 _ hg1).trans ((hx1 (k * 7 + 1) (by omega)).trans i1)
      have y2 := ((bcell hB).1 g1 _ hg1).trans ((hx1 (k * 7 + 2) (by omega)).trans i2)
      have y3 := ((bcell hB).1 g1 _ hg1).trans ((hx1 (k * 7 + 3) (by omega)).trans i3)
      have y4 := ((bcell hB).1 g1 _ hg1).trans ((hx1 (k * 7 + 4) (by omega)).trans i4)
      have y5 := ((bcell hB).1 g1 _ hg1).trans ((hx1 (k * 7 + 5) (by omega)).trans i5)
      have y6 := ((bcell hB).1 g1 _ hg1).trans ((hx1 (k * 7 + 6) (by omega)).trans i6)
      have z0 := ((bcell hB).1 g2 _ hg2).trans ((hx2 (k * 7) (by omega)).trans i0)
      have z1 := ((bcell hB).1 g2 _ hg2).trans ((hx2 (k * 7 + 1) (by omega)).trans i1)
      have z2 := ((bcell hB).1 g2 _ hg2).trans ((hx2 (k * 7 + 2) (by omega)).trans i2)
      have z3 := ((bcell hB).1 g2 _ hg2).trans ((hx2 (k * 7 + 3) (by omega)).trans i3)
      have z4 := ((bcell hB).1 g2 _ hg2).trans ((hx2 (k * 7 + 4) (by omega)).trans i4)
      have z5 := ((bcell hB).1 g2 _ hg2).trans ((hx2 (k * 7 + 5) (by omega)).trans i5)
      have z6 := ((bcell hB).1 g2 _ hg2).trans ((hx2 (k * 7 + 6) (by omega)).trans i6)
      have hlt' : (k : Int) < (L.length : Int) := by omega
      have hk0 : (0 : Int) ≤ (k : Int) := by omega
      generalize L[k] = y at *
      clear hB i0 i1 i2 i3 i4 i5 i6 hx1 hx2
      go_wp2
      go_quiet (fail)
      go_wp2
      exact ⟨⟨k + 1, by omega, by go_num, below_drewN HB.out _⟩, by simp [intOf]; omega⟩
    · clear hB
      go_wp2
      go_ret
      exact ⟨rfl, HB.out⟩

/-- Where the signs of one stand in another one, one behind the other. -/
def Stands (F F' : List Lf) (pos : Nat → Nat) : Prop := ∀ i (hi : i < F.length), ∃ hp : pos i < F'.length, atI F' F[i].a F[i].b = (pos i : Nat) ∧ (F[i].z = true → F'[pos i].z = true) ∧ ∀ j, j < i → pos j < pos i

/-- Where the one ahead stands; -1, if there is none. -/
def lastI (pos : Nat → Nat) : Nat → Int
  | 0 => -1
  | k + 1 => (pos k : Nat)
/-- With something more all signs stand as they stood. -/
theorem stands_more {l l' : List Op7} (h : opsB l = true) (h' : opsB l' = true) (hs : l.Sublist l') : ∃ pos, Stands (lfs l (allO l)) (lfs l' (allO l')) pos := by
  have key : ∀ i (hi : i < (lfs l (allO l)).length), ∃ k : Nat, ∃ hk : k < (lfs l' (allO l')).length, atI (lfs l' (allO l')) (lfs l (allO l))[i].a (lfs l (allO l))[i].b = (k : Nat) ∧ ((lfs l (allO l))[i].z = true → (lfs l' (allO l'))[k].z = true) ∧ ∃ p, (allO l)[i]? = some p ∧ (allO l')[k]? = some p := fun i hi => by
    obtain ⟨p, hp, e⟩ := lfs_get hi
    obtain ⟨hm, hk⟩ := side_put _ (List.mem_of_getElem? hp)
    obtain ⟨k, hk', h1, h2⟩ := put_leaf h' (hs.mem hm) hk
    obtain ⟨p', hp', e'⟩ := lfs_get hk'
    have ep : p' = p := by
      rw [e'] at h2
      exact once_eq (once_ops h') (side_put _ (List.mem_of_getElem? hp')).1 (hs.mem hm) (congrArg Lf.a h2) (congrArg Lf.b h2)
    subst ep
    refine ⟨k, hk', by rw [e]; exact h1, fun hz => ?_, p', hp, hp'⟩
    rw [e] at hz
    rw [h2]
    exact gone_sub hs hz
  refine ⟨fun i => if hi : i < (lfs l (allO l)).length then Classical.choose (key i hi) else 0, fun i hi => ?_⟩
  have hc := Classical.choose_spec (key i hi)
  simp only [dif_pos hi]
  obtain ⟨hk, h1, h2, p, hp, hp'⟩ := hc
  refine ⟨hk, h1, h2, fun j hj => ?_⟩
  have hj' : j < (lfs l (allO l)).length := by omega
  obtain ⟨_, _, _, q, hq, hq'⟩ := Classical.choose_spec (key j hj')
  rw [dif_pos hj']
  exact sub_at (all_sub hs) (nodup_all h') hq hp hq' hp' hj
end Go.Proofs.YtedanlmippfojaaDoor

namespace Go.Proofs.YtedanlmippfojaaDoor
open Go.RowKit
set_option linter.unusedSimpArgs false
set_option linter.unusedVariables false

/-- Two rows of things, in memory that has grown. -/
def TwoO (w : World) (G c : Nat) (L : List Op7) (Gx cg : Nat) (M : List Op7) (W : World) : Prop := OwnOps W w.heap.size G c L ∧ OwnOps W w.heap.size Gx cg M ∧ Below w.heap.size w W
theorem TwoO.below {w : World} {G c : Nat} {L : List Op7} {Gx cg : Nat} {M : List Op7} {W W' : World} (h : TwoO w G c L Gx cg M W) (hb : Below W.heap.size W W') : TwoO w G c L Gx cg M W' := ⟨h.1.below hb, h.2.1.below hb, Bstep h.2.2 hb⟩
theorem TwoO.one {w : World} {G c : Nat} {L : List Op7} {Gx cg : Nat} {M : List Op7} {W : World} (h : TwoO w G c L Gx cg M W) : OpsAt W G L := h.1.at
theorem TwoO.two {w : World} {G c : Nat} {L : List Op7} {Gx cg : Nat} {M : List Op7} {W : World} (h : TwoO w G c L Gx cg M W) : OpsAt W Gx M := h.2.1.at
theorem TwoO.bel {w : World} {G c : Nat} {L : List Op7} {Gx cg : Nat} {M : List Op7} {W : World} (h : TwoO w G c L Gx cg M W) : Below w.heap.size w W := h.2.2
theorem TwoO.fst {w : World} {G c : Nat} {L : List Op7} {Gx cg : Nat} {M : List Op7} {W : World} {P : Nat} {a : Int} (h : TwoO w G c L Gx cg M W ∧ W.cell? ⟨P, 0, none⟩ = some (.int .i64 a) ∧ P < W.heap.size) : TwoO w G c L Gx cg M W := h.1
/-- The same, and a number in a box. -/
theorem TwoO.cell {w : World} {G c : Nat} {L : List Op7} {Gx cg : Nat} {M : List Op7} {W W' : World} {P : Nat} {a : Int} (h : TwoO w G c L Gx cg M W ∧ W.cell? ⟨P, 0, none⟩ = some (.int .i64 a) ∧ P < W.heap.size) (hb : Below W.heap.size W W') : TwoO w G c L Gx cg M W' ∧ W'.cell? ⟨P, 0, none⟩ = some (.int .i64 a) ∧ P < W'.heap.size :=
  ⟨h.1.below hb, ((bcell hb).1 _ _ h.2.2).trans h.2.1, Nat.lt_of_lt_of_le h.2.2 hb.size⟩
end Go.Proofs.YtedanlmippfojaaDoor
