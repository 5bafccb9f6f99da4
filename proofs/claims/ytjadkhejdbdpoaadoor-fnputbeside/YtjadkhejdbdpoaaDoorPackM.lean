/- Kids as rows of ids. -/
import Derived.Test.YtjadkhejdbdpoaaDoorPackJ
import Derived.Test.YtjadkhejdbdpoaaDoorPackH
import Derived.Test.YtjadkhejdbdpoaaDoorPackB
import Derived.Test.YtjadkhejdbdpoaaDoorPackC
import Derived.Test.YtjadkhejdbdpoaaDoorPackK
namespace Go.Proofs.YtjadkhejdbdpoaaDoor
open Go.RowKit
set_option linter.unusedSimpArgs false
set_option linter.unusedVariables false
attribute [local go_sem ↓] Go.wp_at_zero Go.wp_at_succ

/-- Whether there is such a place. -/
def atB (l : List Op7) (t : Int) : Bool := opsB l && inB t 0 (shownI (lvs l)).length
/-- The sign ahead of it. -/
def atQ (l : List Op7) (t : Int) : Int × Int := if atB l t = true then ((leftOf l t.toNat).1, (leftOf l t.toNat).2.1) else (0, 0)
def atV (l : List Op7) (t : Int) : Value := .tuple #[.agg #[.int .i64 (atQ l t).1, .int .i64 (atQ l t).2], .bool (atB l t)]
theorem atV_no {l : List Op7} {t : Int} (h : atB l t = false) : atV l t = .tuple #[.agg #[.int .i64 0, .int .i64 0], .bool false] := by unfold atV atQ; rw [h]; rfl
theorem atV_yes {l : List Op7} {t : Int} {a b : Int} {k : Nat} (h : atB l t = true) (hl : leftOf l t.toNat = (a, b, k)) : atV l t = .tuple #[.agg #[.int .i64 a, .int .i64 b], .bool true] := by unfold atV atQ; rw [h, if_pos rfl, hl]

end Go.Proofs.YtjadkhejdbdpoaaDoor

namespace Go.Proofs.YtjadkhejdbdpoaaDoor
open Go.RowKit Go.Shelf
set_option linter.unusedSimpArgs false
set_option linter.unusedVariables false
attribute [local go_sem ↓] Go.wp_at_zero Go.wp_at_succ

set_option maxRecDepth 100000 in
set_option maxHeartbeats 2000000 in
theorem implAt_any (l : List Op7) (g cap : Nat) (t : Int) (hwf : wf64 t) (x : Addr) (w : World) (hl : OpsAt w g l) (hn : l.length ≤ 1048576) (hcap : l.length ≤ cap)
    (he : w.cell? ⟨0, 0, none⟩ = some (.iface 164 (.pointer (some x)))) (h0 : 0 < w.heap.size) :
    Calls Tryd.prog 27 #[.slice (some ⟨g, 0, none⟩) l.length cap, .int .i64 t] w fun e w' => e = .returned (atV l t) ∧ Below w.heap.size w w' := by
  have HL := hideIt hl
  have hgw := hl.1
  clear hl
  have HIB := hideIt (IB.start w)
  go_enter Tryd.func27, Tryd.ntmps27
  go_wp2_with fail
  generalize w.alloc (.cells #[.int .i64 0, .int .i64 0] 27) = W0 at *
  refine (treeOf_any l g cap x _ (HL.out.below HIB.out.bel hgw) hn hcap (errB HIB.out.bel h0 he) (posB HIB.out.bel h0)).mono ?_
  rintro e w1 ⟨(⟨ht, b1, b2, b3, base, rfl, hT⟩ | ⟨ht, rfl⟩), hb1⟩
  all_goals
    have HO := hideIt ht
    have HI1 := hideIt (HIB.out.below hb1)
    have herr1 : w1.cell? ⟨0, 0, none⟩ = some (.iface 164 (.pointer (some x))) := errB HI1.out.bel h0 he
    have hp1 : 0 < w1.heap.size := posB HI1.out.bel h0
    have hmw : w.heap.size < w1.heap.size := HI1.out.lt
    have hbx := HI1.out.box
    have i0 := (blk_cell hbx 0).trans rfl
    have i1 := (blk_cell hbx 1).trans rfl
    have fi : ∀ j, w1.frozen? ⟨w.heap.size, j, none⟩ = false := fun j => HI1.out.frozen j
    clear ht hb1 HIB hbx
  · have HTT := hideIt hT
    clear hT
    go_wp2_with (first | (go_at_call 50; refine (is_nil x _).mono ?_; rintro e w'' ⟨rfl, rfl⟩))
    have HB2 : Hid (Below w1.heap.size w1 (w1.alloc (.cells #[.map (some b1), .map (some b2), .map (some b3)] 81))) := (Below.refl _ _).alloc (Nat.le_refl _) _
    refine (signAhead_any l HO.out hn w1 b1 b2 b3 base HTT.out t hwf x _ HB2.out (errB HB2.out hp1 herr1) (posB HB2.out hp1)).mono ?_
    rintro e w3 ⟨(⟨hk, rfl⟩ | ⟨hk, rfl⟩), hb3⟩
    all_goals
      have HI3 := hideIt (HI1.out.below (Bstep HB2.out hb3))
      have HK := hideIt hk
      have herr3 : w3.cell? ⟨0, 0, none⟩ = some (.iface 164 (.pointer (some x))) := errB HI3.out.bel h0 he
      have hw3 : w.heap.size < w3.heap.size := HI3.out.lt
      have hbx := HI3.out.box
      have j0 := (blk_cell hbx 0).trans rfl
      have j1 := (blk_cell hbx 1).trans rfl
      have fj : ∀ j, w3.frozen? ⟨w.heap.size, j, none⟩ = false := fun j => HI3.out.frozen j
      clear hk hb3 hbx i0 i1 fi
    · obtain ⟨la, lb, lk, hlf⟩ : ∃ la lb lk, leftOf l t.toNat = (la, lb, lk) := ⟨_, _, _, rfl⟩
      have HN := hideIt (atV_yes (l := l) (t := t) (by unfold atB; rw [HO.out, HK.out]; rfl) hlf)
      rw [hlf]
      clear hlf
      dsimp only
      go_wp2_with fail
      obtain ⟨Wm, hWm⟩ : ∃ Wm, w3.alloc (.cells #[.int .i64 la, .int .i64 lb] 27) = Wm := ⟨_, rfl⟩
      have hbm : Below w3.heap.size w3 Wm := by rw [← hWm]; exact (Below.refl _ _).alloc (Nat.le_refl _) _
      have hmk : Wm.heap[w3.heap.size]? = some (.cells #[.int .i64 la, .int .i64 lb] 27 (0, 0)) := by rw [← hWm]; exact World.alloc_heap_new _ _
      have HIM := hideIt (HI3.out.below hbm)
      have k0 := (blk_cell HIM.out.box 0).trans rfl
      have k1 := (blk_cell HIM.out.box 1).trans rfl
      have fk : ∀ j, Wm.frozen? ⟨w.heap.size, j, none⟩ = false := fun j => HIM.out.frozen j
      have m0 := (blk_cell hmk 0).trans rfl
      have m1 := (blk_cell hmk 1).trans rfl
      have herrm : Wm.cell? ⟨0, 0, none⟩ = some (.iface 164 (.pointer (some x))) := errB HIM.out.bel h0 he
      rw [hWm]
      clear hWm hbm hmk j0 j1 fj herr3
      generalize w3.heap.size = M at *
      have n1 : ¬ M = w.heap.size := by omega
      have n2 : ¬ w.heap.size = M := by omega
      have n3 : ¬ 0 = w.heap.size := by omega
      have n4 : ¬ w.heap.size = 0 := by omega
      go_region_held3 (fun w' => w'.cell? ⟨M, 0, none⟩ = some (.int .i64 la) ∧ w'.cell? ⟨M, 1, none⟩ = some (.int .i64 lb) ∧ w'.cell? ⟨0, 0, none⟩ = some (.iface 164 (.pointer (some x))))
        (first | exact ⟨m0, m1, herrm⟩ | (simp [go_sem, m0, m1, herrm, n1, n2, n3, n4]))
        (first | (go_at_call 50; refine (is_nil x _).mono ?_; rintro e w'' ⟨rfl, rfl⟩))
      go_wp2
      exact bodyPost_ret (v := .tuple #[.agg #[.int .i64 la, .int .i64 lb], .bool true]) (by simp [results, Tryd.results27, go_sem, k0, k1]) rfl ⟨by rw [HN.out], ((HIM.out.bel.setCell (p := ⟨w.heap.size, 0, none⟩) (Nat.le_refl _) _).setCell (p := ⟨w.heap.size, 1, none⟩) (Nat.le_refl _) _).drew⟩
    · have HN := hideIt (atV_no (l := l) (t := t) (by unfold atB; rw [HO.out, HK.out]; rfl))
      go_wp2_with fail
      obtain ⟨Wm, hWm⟩ : ∃ Wm, w3.alloc (.cells #[.int .i64 0, .int .i64 0] 27) = Wm := ⟨_, rfl⟩
      have hbm : Below w3.heap.size w3 Wm := by rw [← hWm]; exact (Below.refl _ _).alloc (Nat.le_refl _) _
      have hmk : Wm.heap[w3.heap.size]? = some (.cells #[.int .i64 0, .int .i64 0] 27 (0, 0)) := by rw [← hWm]; exact World.alloc_heap_new _ _
      have HIM := hideIt (HI3.out.below hbm)
      have k0 := (blk_cell HIM.out.box 0).trans rfl
      have k1 := (blk_cell HIM.out.box 1).trans rfl
      have fk : ∀ j, Wm.frozen? ⟨w.heap.size, j, none⟩ = false := fun j => HIM.out.frozen j
      have m0 := (blk_cell hmk 0).trans rfl
      have m1 := (blk_cell hmk 1).trans rfl
      have herrm : Wm.cell? ⟨0, 0, none⟩ = some (.iface 164 (.pointer (some x))) := errB HIM.out.bel h0 he
      rw [hWm]
      clear hWm hbm hmk j0 j1 fj herr3
      generalize w3.heap.size = M at *
      have n1 : ¬ M = w.heap.size := by omega
      have n2 : ¬ w.heap.size = M := by omega
      have n3 : ¬ 0 = w.heap.size := by omega
      have n4 : ¬ w.heap.size = 0 := by omega
      go_region_held3 (fun w' => w'.cell? ⟨M, 0, none⟩ = some (.int .i64 0) ∧ w'.cell? ⟨M, 1, none⟩ = some (.int .i64 0) ∧ w'.cell? ⟨0, 0, none⟩ = some (.iface 164 (.pointer (some x))))
        (first | exact ⟨m0, m1, herrm⟩ | (simp [go_sem, m0, m1, herrm, n1, n2, n3, n4]))
        (first | (go_at_call 50; refine (is_same x _).mono ?_; rintro e w'' ⟨rfl, rfl⟩))
      go_wp2
      exact bodyPost_ret (v := .tuple #[.agg #[.int .i64 0, .int .i64 0], .bool false]) (by simp [results, Tryd.results27, go_sem, k0, k1]) rfl ⟨by rw [HN.out], ((HIM.out.bel.setCell (p := ⟨w.heap.size, 0, none⟩) (Nat.le_refl _) _).setCell (p := ⟨w.heap.size, 1, none⟩) (Nat.le_refl _) _).drew⟩
  · have HN := hideIt (atV_no (l := l) (t := t) (by unfold atB; rw [HO.out]; rfl))
    go_wp2_with (first | (go_at_call 50; refine (is_same x _).mono ?_; rintro e w'' ⟨rfl, rfl⟩))
    have hbz := blk_below (set_two (u' := .int .i64 0) (v' := .int .i64 0) HI1.out.box) ((Below.refl _ _).alloc (Nat.le_refl _) (.cells #[.map none, .map none, .map none] 81))
    have v0 := (blk_cell hbz 0).trans rfl
    have v1 := (blk_cell hbz 1).trans rfl
    exact bodyPost_ret (v := .tuple #[.agg #[.int .i64 0, .int .i64 0], .bool false]) (by simp [results, Tryd.results27, go_sem, v0, v1]) rfl ⟨by rw [HN.out], ((HI1.out.bel.setCell (p := ⟨w.heap.size, 0, none⟩) (Nat.le_refl _) _).setCell (p := ⟨w.heap.size, 1, none⟩) (Nat.le_refl _) _).alloc (by simp [World.setCell]; omega) _⟩
end Go.Proofs.YtjadkhejdbdpoaaDoor

namespace Go.Proofs.YtjadkhejdbdpoaaDoor
open Go.RowKit
set_option linter.unusedSimpArgs false
set_option linter.unusedVariables false
attribute [local go_sem ↓] Go.wp_at_zero Go.wp_at_succ

theorem idCells_at : ∀ (L : List (Int × Int)) (i : Nat) (x : Int × Int), L[i]? = some x → (idCells L)[i * 2]? = some (.int .i64 x.1) ∧ (idCells L)[i * 2 + 1]? = some (.int .i64 x.2)
  | [], i, x, h => by simp at h
  | y :: r, 0, x, h => by simp at h; subst h; simp [idCells]
  | y :: r, i + 1, x, h => by
    have h' := idCells_at r i x (by simpa using h)
    have e : idCells (y :: r) = [.int .i64 y.1, .int .i64 y.2] ++ idCells r := by simp [idCells]
    have hs : ∀ j, (idCells (y :: r))[(i + 1) * 2 + j]? = (idCells r)[i * 2 + j]? := fun j => by
      rw [e, List.getElem?_append_right (by simp; omega)]
      congr 1
      simp
      omega
    have h0 := hs 0
    simp only [Nat.add_zero] at h0
    rw [h0, hs 1]
    exact h'

theorem implKidsS_any (l : List Op7) (hO : opsB l = true) (g cap : Nat) (r m s : Int) (x : Addr) (w : World) (hl : OpsAt w g l) (hn : l.length ≤ 1048576) (hcap : l.length ≤ cap)
    (he : w.cell? ⟨0, 0, none⟩ = some (.iface 164 (.pointer (some x)))) (h0 : 0 < w.heap.size) (hr : wf64 r) (hm : wf64 m) (hs : wf64 s) :
    Calls Tryd.prog 28 #[.slice (some ⟨g, 0, none⟩) l.length cap, .agg #[.int .i64 r, .int .i64 m], .int .i64 s] w fun e w' => ∃ q c, e = .returned (.slice q (kidsL l (r, m, s)).length c) ∧ (0 < (kidsL l (r, m, s)).length → ∃ gk, q = some ⟨gk, 0, none⟩ ∧ (kidsL l (r, m, s)).length ≤ c ∧ gk < w'.heap.size ∧ ∀ j, j < (kidsL l (r, m, s)).length * 2 → w'.cell? ⟨gk, j, none⟩ = (idCells (idsOf (kidsL l (r, m, s))))[j]?) ∧ Below w.heap.size w w' := by
  refine (implKids_any l g cap r m s x w hl hn hcap he h0 hr hm hs).mono ?_
  rintro e w' ⟨v, rfl, hr, hb⟩
  have e1 : kidIds l r m s = idsOf (kidsL l (r, m, s)) := by unfold kidIds; rw [if_pos hO]
  rw [e1, idsOf_len] at hr
  rcases hr.2 with ⟨e, e0⟩ | ⟨g', c', cur, e, _, hg, h2, _⟩
  · exact ⟨none, 0, by rw [e, e0], fun h => by omega, hb⟩
  · subst e
    exact ⟨some ⟨g', 0, none⟩, c', rfl, fun _ => ⟨g', rfl, h2, (Array.getElem?_eq_some_iff.1 hg).1, fun j hj => World.ownsRow.cellAt hr j hj⟩, hb⟩

theorem op_wf {l : List Op7} (h : opsB l = true) {o : Op7} (ho : o ∈ l) : wf64 o.a ∧ wf64 o.b ∧ wf64 o.c ∧ wf64 o.d ∧ wf64 o.s := by
  have := okO_num (List.all_eq_true.1 (opsB_all h).1 o ho)
  exact ⟨wf_small ⟨by omega, by omega⟩, wf_small ⟨by omega, by omega⟩, wf_small ⟨by omega, by omega⟩, wf_small ⟨by omega, by omega⟩, wf_small ⟨by omega, by omega⟩⟩
/-- Is an id among the first k kids? -/
def inTo (K : List Op7) (k : Nat) (a b : Int) : Bool := (K.take k).any fun o => o.a == a && o.b == b
theorem inTo_zero (K : List Op7) (a b : Int) : inTo K 0 a b = false := by simp [inTo]
theorem inTo_more {K : List Op7} {k : Nat} (hk : k < K.length) (a b : Int) : inTo K (k + 1) a b = (inTo K k a b || (K[k].a == a && K[k].b == b)) := by
  unfold inTo
  rw [List.take_succ_eq_append_getElem hk, List.any_append]
  simp
theorem inTo_all {K : List Op7} {o : Op7} (h : o ∈ K) : inTo K K.length o.a o.b = true := by
  unfold inTo
  rw [List.take_length]
  exact List.any_eq_true.2 ⟨o, h, by simp⟩

end Go.Proofs.YtjadkhejdbdpoaaDoor
