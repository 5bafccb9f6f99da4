/- The contract of the program's OpsUpto. -/
import Derived.Test.YtgagookcpeejdaaDoorPackB
import Derived.RangeFuncBox
import Derived.Test.YtgagookcpeejdaaDoorPackA
import Derived.Deep.RegionHeld3
namespace Go.Proofs.YtgagookcpeejdaaDoor
open Go.RowKit
set_option linter.unusedSimpArgs false
set_option linter.unusedVariables false
attribute [local go_sem ↓] Go.wp_at_zero Go.wp_at_succ

/-- The cells of things. -/
def opCells (L : List Op7) : List Value := L.flatMap fun o => [.int .i64 o.a, .int .i64 o.b, .int .i64 o.k, .int .i64 o.c, .int .i64 o.d, .int .i64 o.s, .int .i64 o.g]
theorem opCells_len : ∀ L : List Op7, (opCells L).length = L.length * 7
  | [] => rfl
  | x :: r => by have := opCells_len r; simp [opCells] at this ⊢; omega
theorem opCells_app (L M : List Op7) : opCells (L ++ M) = opCells L ++ opCells M := by simp [opCells]
theorem opCells_one : ∀ L, ∀ u ∈ opCells L, u.oneCell' = true := by
  intro L u hu
  unfold opCells at hu
  obtain ⟨o, _, ho⟩ := List.mem_flatMap.1 hu
  simp at ho
  rcases ho with rfl | rfl | rfl | rfl | rfl | rfl | rfl <;> rfl
theorem opCells_at : ∀ (L : List Op7) (i : Nat) (o : Op7), L[i]? = some o → (opCells L)[i * 7]? = some (.int .i64 o.a) ∧ (opCells L)[i * 7 + 1]? = some (.int .i64 o.b) ∧ (opCells L)[i * 7 + 2]? = some (.int .i64 o.k) ∧ (opCells L)[i * 7 + 3]? = some (.int .i64 o.c) ∧ (opCells L)[i * 7 + 4]? = some (.int .i64 o.d) ∧ (opCells L)[i * 7 + 5]? = some (.int .i64 o.s) ∧ (opCells L)[i * 7 + 6]? = some (.int .i64 o.g)
  | [], i, o, h => by simp at h
  | y :: r, 0, o, h => by simp at h; subst h; simp [opCells]
  | y :: r, i + 1, o, h => by
    have h' := opCells_at r i o (by simpa using h)
    have e : opCells (y :: r) = [.int .i64 y.a, .int .i64 y.b, .int .i64 y.k, .int .i64 y.c, .int .i64 y.d, .int .i64 y.s, .int .i64 y.g] ++ opCells r := by simp [opCells]
    have hs : ∀ j, (opCells (y :: r))[(i + 1) * 7 + j]? = (opCells r)[i * 7 + j]? := fun j => by
      rw [e, List.getElem?_append_right (by simp; omega)]
      congr 1
      simp
      omega
    have h0 := hs 0
    simp only [Nat.add_zero] at h0
    rw [h0, hs 1, hs 2, hs 3, hs 4, hs 5, hs 6]
    exact h'
/-- A row of things of one's own. -/
def OwnOps (w : World) (base : Nat) (g cap : Nat) (L : List Op7) : Prop := w.ownsRow base 42 7 (.slice (some ⟨g, 0, none⟩) L.length cap) L.length (opCells L)
theorem OwnOps.at {w : World} {base g cap : Nat} {L : List Op7} (h : OwnOps w base g cap L) : OpsAt w g L := by
  refine ⟨(World.ownsRow.lt h g rfl).2, fun i o ho => ?_⟩
  obtain ⟨h0, h1, h2, h3, h4, h5, h6⟩ := opCells_at L i o ho
  have hi : i < L.length := (List.getElem?_eq_some_iff.1 ho).1
  have hc : ∀ j, j < L.length * 7 → w.cell? ⟨g, j, none⟩ = (opCells L)[j]? := fun j hj => World.ownsRow.cellAt h j hj
  exact ⟨(hc _ (by omega)).trans h0, (hc _ (by omega)).trans h1, (hc _ (by omega)).trans h2, (hc _ (by omega)).trans h3, (hc _ (by omega)).trans h4, (hc _ (by omega)).trans h5, (hc _ (by omega)).trans h6⟩
theorem OwnOps.cap {w : World} {base g cap : Nat} {L : List Op7} (h : OwnOps w base g cap L) : L.length ≤ cap := by
  rcases h.2 with ⟨h, _⟩ | ⟨g', c', cur, h, _, _, h2, _⟩
  · cases h
  · cases h; exact h2
theorem OwnOps.below {w w' : World} {base g cap : Nat} {L : List Op7} (h : OwnOps w base g cap L) (hb : Below w.heap.size w w') : OwnOps w' base g cap L :=
  World.ownsRow.kept h (row := none) ⟨hb.os, hb.tape, hb.output, hb.size, fun i hi _ => hb.block i hi⟩ (.inr (by simp [Value.ownBlock]))
theorem infoOp : (Tryd.prog.info? 42).map (fun i => (i.zero, i.size, i.bytes)) = some (some (.agg #[.int .i64 0, .int .i64 0, .int .i64 0, .int .i64 0, .int .i64 0, .int .i64 0, .int .i64 0]), 7, 56) := by kernel_rfl

theorem blkCell {W : World} {b : Nat} {cur : Array Value} {T : TypeId} (h : W.heap[b]? = some (.cells cur T (0, 0))) (j : Nat) : W.cell? ⟨b, j, none⟩ = cur[j]? := by simp [World.cell?, h]
/-- One is ahead of another. -/
def lessB (p q : Op7) : Bool := decide (p.a < q.a ∨ (p.a = q.a ∧ p.b < q.b))
/-- What was done, with something more. -/
def withL (l : List Op7) (o : Op7) : List Op7 := l.filter (fun p => lessB p o) ++ [o] ++ l.filter (fun p => lessB o p)

set_option maxRecDepth 100000 in
set_option maxHeartbeats 2000000 in
theorem specLess_any (a b c d : Int) (w : World) :
    Calls Tryd.prog 62 #[.agg #[.int .i64 a, .int .i64 b], .agg #[.int .i64 c, .int .i64 d]] w fun e w' => e = .returned (.bool (decide (a < c ∨ (a = c ∧ b < d)))) ∧ Below w.heap.size w w' := by
  go_enter Tryd.func62, Tryd.ntmps62
  by_cases h1 : a < c
  · go_wp2
    go_ret
    exact ⟨by simp [h1], by go_grown⟩
  · by_cases h2 : a = c
    · subst h2
      go_wp2
      go_ret
      exact ⟨by simp, by go_grown⟩
    · go_wp2
      go_ret
      exact ⟨by simp [h1, h2], by go_grown⟩
end Go.Proofs.YtgagookcpeejdaaDoor

namespace Go.Proofs.YtgagookcpeejdaaDoor
open Go.RowKit
set_option linter.unusedSimpArgs false
set_option linter.unusedVariables false
attribute [local go_sem ↓] Go.wp_at_zero Go.wp_at_succ

/-- Where the thing of an id stands, if what was done is ok. -/
def findB (l : List Op7) (r m : Int) : Int := if opsB l = true then findI l r m else -1
theorem opsB_parts {l : List Op7} (h : opsB l = true) : l.all okO = true ∧ ordB l = true := by
  unfold opsB at h
  simp only [Bool.and_eq_true] at h
  exact ⟨h.1, h.2.1⟩


theorem keepF {w w1 w2 : World} {u v : Value} (hb : Below w1.heap.size w1 w2)
    (h : w1.cell? ⟨w.heap.size, 0, none⟩ = some u ∧ w1.cell? ⟨w.heap.size, 1, none⟩ = some v ∧ w.heap.size < w1.heap.size ∧ Below w.heap.size w w1) :
    w2.cell? ⟨w.heap.size, 0, none⟩ = some u ∧ w2.cell? ⟨w.heap.size, 1, none⟩ = some v ∧ w.heap.size < w2.heap.size ∧ Below w.heap.size w w2 := by
  obtain ⟨h1, h2, h4, h5⟩ := h
  obtain ⟨hc, _⟩ := bcell hb
  exact ⟨(hc _ _ h4).trans h1, (hc _ _ h4).trans h2, Nat.lt_of_lt_of_le h4 hb.size, Bstep h5 hb⟩

set_option maxRecDepth 100000 in
set_option maxHeartbeats 1000000 in
theorem implFind_any (l : List Op7) (g cap : Nat) (r m : Int) (x : Addr) (w : World) (hl : OpsAt w g l) (hn : l.length ≤ 1048576) (hcap : l.length ≤ cap)
    (he : w.cell? ⟨0, 0, none⟩ = some (.iface 166 (.pointer (some x)))) (h0 : 0 < w.heap.size) :
    Calls Tryd.prog 84 #[.slice (some ⟨g, 0, none⟩) l.length cap, .agg #[.int .i64 r, .int .i64 m]] w fun e w' => e = .returned (.int .i64 (findB l r m)) ∧ Below w.heap.size w w' := by
  have HL := hideIt hl
  have hgw := hl.1
  clear hl
  go_enter Tryd.func84, Tryd.ntmps84
  go_wp2_with fail
  have HB0 : Hid (Below w.heap.size w (w.alloc (.cells #[.int .i64 r, .int .i64 m] 40))) := (Below.refl _ _).alloc (Nat.le_refl _) _
  refine (things_any l g cap x _ (HL.out.below HB0.out hgw) hn hcap (errB HB0.out h0 he) (posB HB0.out h0)).mono ?_
  rintro e w1 ⟨(⟨ht, M, hMM, rfl, hT⟩ | ⟨ht, rfl⟩), hb1⟩
  all_goals
    have HT := hideIt (ht.symm.trans (th_same l))
    have HB1 : Hid (Below w.heap.size w w1) := HB0.out.trans (hb1.mono (by simp))
    have herr1 : w1.cell? ⟨0, 0, none⟩ = some (.iface 166 (.pointer (some x))) := errB HB1.out h0 he
    have k0 : w1.cell? ⟨w.heap.size, 0, none⟩ = some (.int .i64 r) := by rw [(bcell hb1).1 _ _ (by simp)]; simp [go_sem]
    have k1 : w1.cell? ⟨w.heap.size, 1, none⟩ = some (.int .i64 m) := by rw [(bcell hb1).1 _ _ (by simp)]; simp [go_sem]
    have hz1 : w.heap.size < w1.heap.size := by have := hb1.size; simp at this; omega
    clear ht hb1
  · have HTT := hideIt hT
    have hM1 : M < w1.heap.size := hT.1
    obtain ⟨hok, hord⟩ := opsB_parts HT.out.symm
    have HOK := hideIt hok
    have HPL : Hid (placeI (cnt l 1) (cnt l 2) (cnt l 3) r m = findB l r m) := by
      show placeI _ _ _ _ _ = _
      rw [← find_place hok hord]; unfold findB; rw [← HT.out]; rfl
    have hlen := len_le hok hord
    have b1 : Hid ((0 ≤ cnt l 1 ∧ cnt l 1 ≤ 1048576) ∧ (0 ≤ cnt l 2 ∧ cnt l 2 ≤ 1048576)) := by
      have h1 := cnt_nonneg l 1
      have h2 := cnt_nonneg l 2
      have h3 := cnt_nonneg l 3
      have h4 := cnt_sum l
      exact ⟨⟨by omega, by omega⟩, ⟨by omega, by omega⟩⟩
    clear hT hok hord hMM
    go_wp2_with (first | (go_at_call 56; refine (is_nil x _).mono ?_; rintro e w'' ⟨rfl, rfl⟩))
    go_region_held3 (fun w' => w'.cell? ⟨w.heap.size, 0, none⟩ = some (.int .i64 r) ∧ w'.cell? ⟨w.heap.size, 1, none⟩ = some (.int .i64 m) ∧ w.heap.size < w'.heap.size ∧ Below w.heap.size w w')
      (first | exact keepF hb2 (by with_reducible assumption) | exact ⟨k0, k1, hz1, HB1.out.drew⟩)
      (first
        | (go_at_call 99; refine (count_any l M l.length _ (HTT.out.below ((Below.refl _ _).drew) hM1) hn (Nat.le_refl _) HOK.out).mono ?_; rintro e w2 ⟨rfl, hse, hfz2, hb2⟩; have HSE := hideIt hse; clear hse hfz2)
        | (go_at_call 98; refine (place_any _ _ _ _ _ _ _ HSE.out b1.out.1 b1.out.2).mono ?_; rintro e w3 ⟨rfl, hb2⟩; rw [HPL.out]))
    rename_i hS
    have HB3 := hideIt hS.2.2.2
    clear hS hb2
    go_wp2
    go_ret
    exact ⟨rfl, HB3.out⟩
  · go_wp2_with (first | (go_at_call 56; refine (is_same x _).mono ?_; rintro e w'' ⟨rfl, rfl⟩))
    go_ret
    exact ⟨ret_int (by unfold findB; rw [← HT.out]; rfl), HB1.out⟩
end Go.Proofs.YtgagookcpeejdaaDoor

namespace Go.Proofs.YtgagookcpeejdaaDoor
open Go.RowKit
set_option linter.unusedSimpArgs false
set_option linter.unusedVariables false
attribute [local go_sem ↓] Go.wp_at_zero Go.wp_at_succ

/-- Whether something was seen. -/
def seenB (s : List Int) (a b : Int) : Bool := decide (a ≤ (s.length : Int)) && decide (b ≤ s.getD (a - 1).toNat 0)
theorem seenB_no {s : List Int} {a b : Int} (h : ¬ a ≤ (s.length : Int)) : seenB s a b = false := by simp [seenB, h]
theorem seenB_at {s : List Int} {a b z : Int} (h : a ≤ (s.length : Int)) (hz : s[(a - 1).toNat]? = some z) : seenB s a b = decide (b ≤ z) := by unfold seenB; rw [List.getD, hz]; simp [h]
theorem seen_at {s : List Int} {a : Int} (h1 : 1 ≤ a) (h : a ≤ (s.length : Int)) : ∃ z, s[(a - 1).toNat]? = some z := ⟨_, List.getElem?_eq_getElem (by omega)⟩

set_option maxRecDepth 100000 in
set_option maxHeartbeats 2000000 in
theorem l12Seen_any (s : List Int) (g cap : Nat) (a b : Int) (w : World) (hs : IntsAt w g s) (hn : s.length ≤ 1048576) (hcap : s.length ≤ cap) (h1 : 1 ≤ a) (h3 : a ≤ 3) :
    Calls Tryd.prog 40 #[.slice (some ⟨g, 0, none⟩) s.length cap, .agg #[.int .i64 a, .int .i64 b]] w fun e w' => e = .returned (.bool (seenB s a b)) ∧ Below w.heap.size w w' := by
  by_cases h : a ≤ (s.length : Int)
  · obtain ⟨z, hz⟩ := seen_at h1 h
    have hc := hs.2 _ _ hz
    rw [seenB_at h hz]
    have hg := hs.1
    clear hz hs
    generalize s.length = n at *
    obtain rfl | rfl | rfl : a = 1 ∨ a = 2 ∨ a = 3 := by omega
    all_goals
      simp at hc
      go_enter Tryd.func40, Tryd.ntmps40
      go_wp2
      go_quiet (fail)
      go_wp2
      go_ret
      exact ⟨rfl, below_drewN ((Below.refl _ _).alloc (Nat.le_refl _) _) _⟩
  · rw [seenB_no h]
    clear hs
    generalize s.length = n at *
    obtain ⟨rfl, rfl⟩ | ⟨rfl, rfl⟩ | ⟨rfl, rfl⟩ | ⟨rfl, rfl⟩ | ⟨rfl, rfl⟩ | ⟨rfl, rfl⟩ : (a = 1 ∧ n = 0) ∨ (a = 2 ∧ n = 0) ∨ (a = 2 ∧ n = 1) ∨ (a = 3 ∧ n = 0) ∨ (a = 3 ∧ n = 1) ∨ (a = 3 ∧ n = 2) := by omega
    all_goals
      go_enter Tryd.func40, Tryd.ntmps40
      go_wp2
      go_quiet (fail)
      go_wp2
      go_ret
      exact ⟨rfl, below_drewN ((Below.refl _ _).alloc (Nat.le_refl _) _) _⟩

set_option maxRecDepth 100000 in
set_option maxHeartbeats 2000000 in
theorem wasSeen_any (s : List Int) (g cap : Nat) (a b : Int) (w : World) (hs : IntsAt w g s) (hn : s.length ≤ 1048576) (hcap : s.length ≤ cap) (h1 : 1 ≤ a) (h3 : a ≤ 3) :
    Calls Tryd.prog 43 #[.slice (some ⟨g, 0, none⟩) s.length cap, .agg #[.int .i64 a, .int .i64 b]] w fun e w' => e = .returned (.bool (seenB s a b)) ∧ Below w.heap.size w w' := by
  by_cases h : a ≤ (s.length : Int)
  · obtain ⟨z, hz⟩ := seen_at h1 h
    have hc := hs.2 _ _ hz
    rw [seenB_at h hz]
    have hg := hs.1
    clear hz hs
    generalize s.length = n at *
    obtain rfl | rfl | rfl : a = 1 ∨ a = 2 ∨ a = 3 := by omega
    all_goals
      simp at hc
      go_enter Tryd.func43, Tryd.ntmps43
      go_wp2
      go_quiet (fail)
      go_wp2
      go_ret
      exact ⟨rfl, below_drewN ((Below.refl _ _).alloc (Nat.le_refl _) _) _⟩
  · rw [seenB_no h]
    clear hs
    generalize s.length = n at *
    obtain ⟨rfl, rfl⟩ | ⟨rfl, rfl⟩ | ⟨rfl, rfl⟩ | ⟨rfl, rfl⟩ | ⟨rfl, rfl⟩ | ⟨rfl, rfl⟩ : (a = 1 ∧ n = 0) ∨ (a = 2 ∧ n = 0) ∨ (a = 2 ∧ n = 1) ∨ (a = 3 ∧ n = 0) ∨ (a = 3 ∧ n = 1) ∨ (a = 3 ∧ n = 2) := by omega
    all_goals
      go_enter Tryd.func43, Tryd.ntmps43
      go_wp2
      go_quiet (fail)
      go_wp2
      go_ret
      exact ⟨rfl, below_drewN ((Below.refl _ _).alloc (Nat.le_refl _) _) _⟩
end Go.Proofs.YtgagookcpeejdaaDoor

namespace Go.Proofs.YtgagookcpeejdaaDoor
open Go.RowKit
set_option linter.unusedSimpArgs false
set_option linter.unusedVariables false
attribute [local go_sem ↓] Go.wp_at_zero Go.wp_at_succ

/-- Of the first k what was seen. -/
def upTo (l : List Op7) (s : List Int) (k : Nat) : List Op7 := (l.take k).filter fun p => seenB s p.a p.b
def uptoL (l : List Op7) (s : List Int) : List Op7 := l.filter fun p => seenB s p.a p.b
theorem up_yes {l : List Op7} {s : List Int} {k : Nat} (hk : k < l.length) (h : seenB s l[k].a l[k].b = true) : upTo l s (k + 1) = upTo l s k ++ [l[k]] := by unfold upTo; rw [List.take_succ_eq_append_getElem hk, List.filter_append]; simp [h]
theorem up_no {l : List Op7} {s : List Int} {k : Nat} (hk : k < l.length) (h : seenB s l[k].a l[k].b = false) : upTo l s (k + 1) = upTo l s k := by unfold upTo; rw [List.take_succ_eq_append_getElem hk, List.filter_append]; simp [h]
theorem up_len (l : List Op7) (s : List Int) (k : Nat) : (upTo l s k).length ≤ l.length := Nat.le_trans (List.length_filter_le _ _) (List.length_take_le' _ _)
theorem up_all (l : List Op7) (s : List Int) : upTo l s l.length = uptoL l s := by simp [upTo, uptoL]
/-- What OpsUpto answers. -/
def ansU (l : List Op7) (s : List Int) : List Op7 := if opsB l = true then uptoL l s else []
theorem ansU_yes {l : List Op7} {s : List Int} (h : opsB l = true) : ansU l s = uptoL l s := if_pos h
theorem ansU_no {l : List Op7} {s : List Int} (h : opsB l = false) : ansU l s = [] := by unfold ansU; rw [h]; rfl
theorem ansU_len (l : List Op7) (s : List Int) : (ansU l s).length ≤ l.length := by
  unfold ansU
  split
  · exact List.length_filter_le _ _
  · exact Nat.zero_le _

/-- What one has so far. -/
structure UL (w wr : World) (v : Value) (L : List Op7) : Prop where
  row : wr.ownsRow w.heap.size 42 7 v L.length (opCells L)
  bel : Below w.heap.size w wr
theorem UL.below {w wr w' : World} {v : Value} {L : List Op7} (h : UL w wr v L) (hb : Below wr.heap.size wr w') : UL w w' v L :=
  ⟨h.row.kept (row := none) ⟨hb.os, hb.tape, hb.output, hb.size, fun i hi _ => hb.block i hi⟩ (by cases v.ownBlock <;> simp), Bstep h.bel hb⟩
theorem UL.app {w wr w' : World} {v v' : Value} {L M : List Op7} (h : UL w wr v L) (hg : wr.grownBy w' v.ownBlock) (hown : w'.ownsRow w.heap.size 42 7 v' (L.length + M.length) (opCells L ++ opCells M)) : UL w w' v' (L ++ M) :=
  ⟨by rw [opCells_app, List.length_append]; exact hown, below_grown h.bel hg h.bel.size (fun j e => (h.row.lt j e).1)⟩

set_option maxRecDepth 100000 in
set_option maxHeartbeats 4000000 in
theorem specUpto_any (l : List Op7) (s : List Int) (g cap g2 cap2 : Nat) (w : World) (hl : OpsAt w g l) (hn : l.length ≤ 1048576) (hcap : l.length ≤ cap) (hs : IntsAt w g2 s) (hn2 : s.length ≤ 1048576) (hcap2 : s.length ≤ cap2) :
    Calls Tryd.prog 12 #[.slice (some ⟨g, 0, none⟩) l.length cap, .slice (some ⟨g2, 0, none⟩) s.length cap2] w fun e w' => ∃ v, e = .returned v ∧ w'.ownsRow w.heap.size 42 7 v (ansU l s).length (opCells (ansU l s)) ∧ Below w.heap.size w w' := by
  have HL := hideIt hl
  have HSN := hideIt hs
  have hgw := hl.1
  have hgs := hs.1
  clear hl hs
  obtain ⟨i0, hi, hz0', hz1', hz2⟩ := info_parts infoOp
  have HI1 := hideIt hi
  have HZ0 := hideIt hz0'
  have HZ1 := hideIt hz1'
  have HZ2 := hideIt hz2
  clear hi hz0' hz1' hz2
  have HST : Hid (UL w (w.alloc (.cells #[] 42)) (.slice (some ⟨w.heap.size, 0, none⟩) 0 0) []) :=
    ⟨World.ownsRow_made (base := w.heap.size) (e := 42) (size := 7) w #[] 0 (Nat.le_refl _) (Nat.zero_le _) rfl, (Below.refl _ _).alloc (Nat.le_refl _) _⟩
  cases ho : opsB l
  all_goals
    have HO := hideIt ho
    clear ho
    go_enter Tryd.func12, Tryd.ntmps12
    go_wp2_with fail
    refine (specOps_any l _ _ _ (HL.out.below HST.out.bel hgw) hn hcap).mono ?_
    rintro e w1 ⟨rfl, hb1⟩
    rw [HO.out]
    have HS1 := hideIt (HST.out.below hb1)
    clear hb1 HST
  · go_wp2
    go_ret
    exact ⟨_, rfl, by rw [ansU_no HO.out]; exact HS1.out.row, HS1.out.bel⟩
  · have HOK := hideIt (opsB_parts HO.out).1
    go_wp2
    go_loopw [5, 6] (fun v i wr => ∃ k G c : Nat, k ≤ l.length ∧ i = .int .i64 k ∧ v = .slice (some ⟨G, 0, none⟩) (upTo l s k).length c ∧ UL w wr v (upTo l s k))
      (fun _ i _ => l.length - (intOf i).toNat)
    case atStart => exact ⟨0, _, _, Nat.zero_le _, rfl, rfl, HS1.out⟩
    case round =>
      obtain ⟨k, Gb, cb, hk, rfl, rfl, hS⟩ := hrel
      have HS := hideIt hS
      have hgr : g < wr.heap.size := Nat.lt_of_lt_of_le hgw hS.bel.size
      have hgsr : g2 < wr.heap.size := Nat.lt_of_lt_of_le hgs hS.bel.size
      have hfl := up_len l s k
      clear hS HS1
      by_cases hlt : k < l.length
      · obtain ⟨y0, y1, y2, y3, y4, y5, y6⟩ := (HL.out.below HS.out.bel hgw).2 k l[k] (by simp [hlt])
        have hpk : l[k]? = some l[k] := by simp [hlt]
        obtain ⟨ha1, ha3, hb1, hb12⟩ := okO_id (all_iff.1 HOK.out k hlt)
        have hyes : Hid (seenB s l[k].a l[k].b = true → upTo l s (k + 1) = upTo l s k ++ [l[k]]) := up_yes hlt
        have hno : Hid (seenB s l[k].a l[k].b = false → upTo l s (k + 1) = upTo l s k) := up_no hlt
        generalize l[k] = p at *
        have hlt' : (k : Int) < (l.length : Int) := by omega
        have hk0 : (0 : Int) ≤ (k : Int) := by omega
        cases hz : seenB s p.a p.b
        all_goals
          have HZ := hideIt hz
          clear hz
          go_wp2_with fail
          refine (l12Seen_any s g2 cap2 _ _ _ (HSN.out.below HS.out.bel hgs) hn2 hcap2 ha1 ha3).mono ?_
          rintro e w2 ⟨rfl, hb2⟩
          have HS2 : Hid (UL w w2 (.slice (some ⟨Gb, 0, none⟩) (upTo l s k).length cb) (upTo l s k)) := HS.out.below hb2
          rw [HZ.out]
          clear hb2 y0 y1 y2 y3 y4 y5 y6
        · have HE := hideIt (hno.out HZ.out)
          go_wp2
          exact ⟨⟨k + 1, Gb, cb, by omega, by go_num, by rw [HE.out], by rw [HE.out]; exact HS2.out⟩, by simp [intOf]; omega⟩
        · have HE := hideIt (hyes.out HZ.out)
          obtain ⟨y0, y1, y2, y3, y4, y5, y6⟩ := (HL.out.below HS2.out.bel hgw).2 k p hpk
          have hgr2 : g < w2.heap.size := Nat.lt_of_lt_of_le hgw HS2.out.bel.size
          go_wp2_with (first
            | (at_builtin; refine wpList_append_own_at _ rfl _ _ 25 rfl w.heap.size 42 i0 _ 7 56 Tryd.underlying25 HI1.out HZ0.out HZ1.out HZ2.out rfl (by decide) _ _ _ rfl (HS2.out.row.alloc _) ⟨w2.heap.size, 0, none⟩ 1 1 (opCells [p]) rfl rfl (cells_new w2 (opCells [p]) 42) (opCells_one _) (by (try simp only [List.length_append, List.length_cons, List.length_nil]); unfold maxLen; omega) (by (try simp only [List.length_append, List.length_cons, List.length_nil]); omega) (by have := HS2.out.bel.size; simp; omega) ?_; intro v' w3 hown3 hg3 _ _;
                obtain ⟨g', cap', hv'⟩ := ownsRow_succ hown3; subst hv';
                have HS3 := hideIt (UL.app (M := [p]) (HS2.out.below ((Below.refl _ _).alloc (Nat.le_refl _) _)) hg3 hown3); clear hown3 hg3))
          exact ⟨⟨k + 1, g', cap', by omega, by go_num, by rw [HE.out, List.length_append]; rfl, by rw [HE.out]; exact HS3.out⟩, by simp [intOf]; omega⟩
      · obtain rfl : k = l.length := by omega
        go_wp2
        go_ret
        have hR := HS.out.row
        rw [up_all, ← ansU_yes (s := s) HO.out] at hR
        exact ⟨_, rfl, by first | exact hR | (rw [up_all, ← ansU_yes (s := s) HO.out]; exact hR), HS.out.bel⟩
end Go.Proofs.YtgagookcpeejdaaDoor

namespace Go.Proofs.YtgagookcpeejdaaDoor
open Go.RowKit
set_option linter.unusedSimpArgs false
set_option linter.unusedVariables false
attribute [local go_sem ↓] Go.wp_at_zero Go.wp_at_succ

set_option maxRecDepth 100000 in
set_option maxHeartbeats 4000000 in
theorem implUpto_any (l : List Op7) (s : List Int) (g cap g2 cap2 : Nat) (x : Addr) (w : World) (hl : OpsAt w g l) (hn : l.length ≤ 1048576) (hcap : l.length ≤ cap) (hs : IntsAt w g2 s) (hn2 : s.length ≤ 1048576) (hcap2 : s.length ≤ cap2)
    (he : w.cell? ⟨0, 0, none⟩ = some (.iface 166 (.pointer (some x)))) (h0 : 0 < w.heap.size) :
    Calls Tryd.prog 15 #[.slice (some ⟨g, 0, none⟩) l.length cap, .slice (some ⟨g2, 0, none⟩) s.length cap2] w fun e w' => ∃ v, e = .returned v ∧ w'.ownsRow w.heap.size 42 7 v (ansU l s).length (opCells (ansU l s)) ∧ Below w.heap.size w w' := by
  have HL := hideIt hl
  have HSN := hideIt hs
  have hgw := hl.1
  have hgs := hs.1
  clear hl hs
  obtain ⟨i0, hi, hz0', hz1', hz2⟩ := info_parts infoOp
  have HI1 := hideIt hi
  have HZ0 := hideIt hz0'
  have HZ1 := hideIt hz1'
  have HZ2 := hideIt hz2
  clear hi hz0' hz1' hz2
  cases ho : opsB l
  all_goals
    have HO := hideIt ho
    clear ho
    go_enter Tryd.func15, Tryd.ntmps15
    go_wp2_with fail
    refine (implOps_any l _ _ x _ HL.out hn hcap he h0).mono ?_
    rintro e w1 ⟨rfl, hb1⟩
    rw [th_same, HO.out]
    have HS1 : Hid (UL w w1 (.slice none 0 0) []) := ⟨World.ownsRow_nil _ _ _ _, hb1⟩
    clear hb1
  · go_wp2
    go_ret
    exact ⟨_, rfl, by rw [ansU_no HO.out]; exact HS1.out.row, HS1.out.bel⟩
  · have HOK := hideIt (opsB_parts HO.out).1
    go_wp2
    go_loopw [5, 13] (fun v i wr => ∃ k : Nat, k ≤ l.length ∧ i = .int .i64 k ∧ UL w wr v (upTo l s k))
      (fun _ i _ => l.length - (intOf i).toNat)
    case atStart => exact ⟨0, Nat.zero_le _, rfl, HS1.out⟩
    case round =>
      obtain ⟨k, hk, rfl, hS⟩ := hrel
      have HS := hideIt hS
      have hgr : g < wr.heap.size := Nat.lt_of_lt_of_le hgw hS.bel.size
      have hgsr : g2 < wr.heap.size := Nat.lt_of_lt_of_le hgs hS.bel.size
      have hfl := up_len l s k
      clear hS HS1
      by_cases hlt : k < l.length
      · obtain ⟨y0, y1, y2, y3, y4, y5, y6⟩ := (HL.out.below HS.out.bel hgw).2 k l[k] (by simp [hlt])
        obtain ⟨ha1, ha3, hb1, hb12⟩ := okO_id (all_iff.1 HOK.out k hlt)
        have hyes : Hid (seenB s l[k].a l[k].b = true → upTo l s (k + 1) = upTo l s k ++ [l[k]]) := up_yes hlt
        have hno : Hid (seenB s l[k].a l[k].b = false → upTo l s (k + 1) = upTo l s k) := up_no hlt
        generalize l[k] = p at *
        have hlt' : (k : Int) < (l.length : Int) := by omega
        have hk0 : (0 : Int) ≤ (k : Int) := by omega
        cases hz : seenB s p.a p.b
        all_goals
          have HZ := hideIt hz
          clear hz
          have HBX : Hid (Below wr.heap.size wr (wr.alloc (.cells #[.int .i64 p.a, .int .i64 p.b, .int .i64 p.k, .int .i64 p.c, .int .i64 p.d, .int .i64 p.s, .int .i64 p.g] 42))) := (Below.refl _ _).alloc (Nat.le_refl _) _
          go_wp2_with fail
          refine (wasSeen_any s g2 cap2 _ _ _ ((HSN.out.below HS.out.bel hgs).below HBX.out hgsr) hn2 hcap2 ha1 ha3).mono ?_
          rintro e w2 ⟨rfl, hb2⟩
          have HS2 := hideIt ((HS.out.below HBX.out).below hb2)
          have hbox := (hb2.block wr.heap.size (by simp)).trans (World.alloc_heap_new wr _)
          rw [HZ.out]
          clear hb2 HBX y0 y1 y2 y3 y4 y5 y6
        · have HE := hideIt (hno.out HZ.out)
          go_wp2
          exact ⟨⟨k + 1, by omega, by go_num, by rw [HE.out]; exact HS2.out⟩, by simp [intOf]; omega⟩
        · have HE := hideIt (hyes.out HZ.out)
          have y0 := (blkCell hbox 0).trans rfl
          have y1 := (blkCell hbox 1).trans rfl
          have y2 := (blkCell hbox 2).trans rfl
          have y3 := (blkCell hbox 3).trans rfl
          have y4 := (blkCell hbox 4).trans rfl
          have y5 := (blkCell hbox 5).trans rfl
          have y6 := (blkCell hbox 6).trans rfl
          have hbz : wr.heap.size < w2.heap.size := (Array.getElem?_eq_some_iff.1 hbox).1
          clear hbox
          go_wp2_with (first
            | (at_builtin; refine wpList_append_own_at _ rfl _ _ 25 rfl w.heap.size 42 i0 _ 7 56 Tryd.underlying25 HI1.out HZ0.out HZ1.out HZ2.out rfl (by decide) _ _ _ rfl (HS2.out.row.alloc _) ⟨w2.heap.size, 0, none⟩ 1 1 (opCells [p]) rfl rfl (cells_new w2 (opCells [p]) 42) (opCells_one _) (by (try simp only [List.length_append, List.length_cons, List.length_nil]); unfold maxLen; omega) (by (try simp only [List.length_append, List.length_cons, List.length_nil]); omega) (by have := HS2.out.bel.size; simp; omega) ?_; intro v' w3 hown3 hg3 _ _;
                have HS3 := hideIt (UL.app (M := [p]) (HS2.out.below ((Below.refl _ _).alloc (Nat.le_refl _) _)) hg3 hown3); clear hown3 hg3))
          exact ⟨⟨k + 1, by omega, by go_num, by rw [HE.out]; exact HS3.out⟩, by simp [intOf]; omega⟩
      · obtain rfl : k = l.length := by omega
        go_wp2
        go_ret
        have hR := HS.out.row
        rw [up_all, ← ansU_yes (s := s) HO.out] at hR
        exact ⟨_, rfl, hR, HS.out.bel⟩
end Go.Proofs.YtgagookcpeejdaaDoor
