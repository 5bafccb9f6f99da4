/- Contracts of what draws ids among things. -/
import Derived.Test.YtjgbickelgkljaaDoorPackC
import Derived.Test.YtjgbickelgkljaaDoorPackA
import Derived.Test.YtjgbickelgkljaaDoorPackD
namespace Go.Proofs.YtjgbickelgkljaaDoor
open Go.RowKit
set_option linter.unusedSimpArgs false
set_option linter.unusedVariables false
attribute [local go_sem ↓] Go.wp_at_zero Go.wp_at_succ

/-- What MarkPlace answers, as a value. -/
def plV (p : Option Nat) : Value := .tuple #[.int .i64 (pN p), .bool (pB p)]
theorem take_next {L : List Lf} {k : Nat} (h : k < L.length) : L.take (k + 1) = L.take k ++ [L[k]] := List.take_succ_eq_append_getElem h
theorem upTo_here {L : List Lf} {k : Nat} {a b : Int} (h : k < L.length) (hf : freeOf (L.take k) a b) (ha : L[k].a = a) (hb : L[k].b = b) : upTo a b L 0 = some (nShown (L.take (k + 1))) := by
  have e : L = L.take k ++ L[k] :: L.drop (k + 1) := by rw [← List.drop_eq_getElem_cons h, List.take_append_drop]
  have h1 := upTo_at (t := L.drop (k + 1)) (n := 0) hf ha hb
  rw [← e] at h1
  rw [h1, take_next h, Nat.zero_add]

set_option maxRecDepth 100000 in
set_option maxHeartbeats 1000000 in
theorem specPlace_any (l : List Op7) (g cap : Nat) (a b : Int) (w : World) (hl : OpsAt w g l) (hn : l.length ≤ 1048576) (hcap : l.length ≤ cap) :
    Calls Tryd.prog 96 #[.slice (some ⟨g, 0, none⟩) l.length cap, .agg #[.int .i64 a, .int .i64 b]] w fun e w' => e = .returned (plV (markP l a b)) ∧ Below w.heap.size w w' := by
  have HL := hideIt hl
  have hgw := hl.1
  clear hl
  cases ho : opsB l
  all_goals
    have HO := hideIt ho
    clear ho
    go_enter Tryd.func96, Tryd.ntmps96
    go_wp2_with fail
    refine (specOps_any l _ _ _ (HL.out.below ((Below.refl _ _).alloc (Nat.le_refl _) _) hgw) hn hcap).mono ?_
    rintro e w1 ⟨rfl, hb1⟩
    rw [HO.out]
    have HB1 : Hid (Below w.heap.size w w1) := ((Below.refl _ _).alloc (Nat.le_refl _) _).trans (hb1.mono (by simp))
    have c0 : w1.cell? ⟨w.heap.size, 0, none⟩ = some (.int .i64 a) := ((bcell hb1).1 _ _ (by simp)).trans (by simp [go_sem])
    have c1 : w1.cell? ⟨w.heap.size, 1, none⟩ = some (.int .i64 b) := ((bcell hb1).1 _ _ (by simp)).trans (by simp [go_sem])
    have hw1 : w.heap.size < w1.heap.size := by have := hb1.size; simp at this; omega
    clear hb1
  · have HM : Hid (markP l a b = none) := by show markP l a b = none; unfold markP; rw [HO.out]; rfl
    go_wp2
    exact bodyPost_ret (v := .tuple #[.int .i64 0, .bool false]) (by simp [results, Tryd.results96, go_sem]) rfl ⟨by rw [HM.out]; rfl, HB1.out⟩
  · by_cases hz : a = 0 ∧ b = 0
    · have HM : Hid (markP l a b = some 0) := by show markP l a b = some 0; unfold markP placeM; rw [HO.out, if_pos hz]; rfl
      obtain ⟨rfl, rfl⟩ := hz
      go_wp2
      exact bodyPost_ret (v := .tuple #[.int .i64 0, .bool true]) (by simp [results, Tryd.results96, go_sem]) rfl ⟨by rw [HM.out]; rfl, HB1.out⟩
    · have HM : Hid (markP l a b = upTo a b (lfs l (allO l)) 0) := by show markP l a b = _; unfold markP placeM; rw [HO.out, if_neg hz]; rfl
      have hor : a ≠ 0 ∨ b ≠ 0 := by omega
      clear hz
      go_wp2_with fail
      all_goals
        refine (l2Leaves_any l HO.out _ _ _ (HL.out.below HB1.out hgw) hn hcap).mono ?_
        rintro e w2 ⟨G, c, rfl, hr, hb2⟩
        rw [lfs_cells, ← lfs_len l (allO l)] at hr
        rw [← lfs_len l (allO l)]
        have hG := (hr.lt G rfl).2
        have hc : (lfs l (allO l)).length ≤ c := by
          rcases hr.2 with ⟨h, _⟩ | ⟨g', c', cur, h, _, _, h2, _⟩
          · cases h
          · cases h; exact h2
        have hln : (lfs l (allO l)).length ≤ 1048576 := by rw [lfs_len]; exact Nat.le_trans (all_len HO.out) hn
        have HC : Hid (∀ j, j < (lfs l (allO l)).length * 4 → w2.cell? ⟨G, j, none⟩ = (lfCells (lfs l (allO l)))[j]?) := fun j hj => hr.cellAt j hj
        have k0 : w2.cell? ⟨w.heap.size, 0, none⟩ = some (.int .i64 a) := ((bcell hb2).1 _ _ hw1).trans c0
        have k1 : w2.cell? ⟨w.heap.size, 1, none⟩ = some (.int .i64 b) := ((bcell hb2).1 _ _ hw1).trans c1
        have hw2 : w.heap.size < w2.heap.size := Nat.lt_of_lt_of_le hw1 hb2.size
        have HB3 := hideIt (Bstep HB1.out hb2)
        clear hb2 c0 c1 hr
        generalize lfs l (allO l) = L at *
        go_wp2
        go_loopw [7, 8] (fun v i wr => ∃ k : Nat, k ≤ L.length ∧ i = .int .i64 k ∧ v = .int .i64 (nShown (L.take k) : Nat) ∧ freeOf (L.take k) a b ∧ Below w2.heap.size w2 wr)
          (fun _ i _ => L.length - (intOf i).toNat)
        case atStart => exact ⟨0, Nat.zero_le _, rfl, rfl, freeOf_nil _ _, Below.refl _ _⟩
        case round =>
          obtain ⟨k, hk, rfl, rfl, hfree, hB⟩ := hrel
          have HB := hideIt (Bstep HB3.out hB)
          have HBW := hideIt hB
          have HF := hideIt hfree
          by_cases hlt : k < L.length
          · obtain ⟨i0, i1, i2, i3⟩ := lfCells_at L k L[k] (by simp [hlt])
            have y0 := ((bcell hB).1 G _ hG).trans ((HC.out (k * 4) (by omega)).trans i0)
            have y1 := ((bcell hB).1 G _ hG).trans ((HC.out (k * 4 + 1) (by omega)).trans i1)
            have y3 := ((bcell hB).1 G _ hG).trans ((HC.out (k * 4 + 3) (by omega)).trans i3)
            have m0 := ((bcell hB).1 _ 0 hw2).trans k0
            have m1 := ((bcell hB).1 _ 1 hw2).trans k1
            have hGr := Nat.lt_of_lt_of_le hG hB.size
            have hwr := Nat.lt_of_lt_of_le hw2 hB.size
            have hsl : nShown (L.take k) ≤ 1048576 := Nat.le_trans (nShown_le _) (Nat.le_trans (List.length_take_le _ _) (by omega))
            have HG : Hid (L[k].z = true → nShown (L.take (k + 1)) = nShown (L.take k)) := fun h => by rw [take_next hlt, nShown_gone h]
            have HT : Hid (L[k].z = false → nShown (L.take (k + 1)) = nShown (L.take k) + 1) := fun h => by rw [take_next hlt, nShown_there h]
            have HY : Hid (L[k].a = a → L[k].b = b → upTo a b L 0 = some (nShown (L.take (k + 1)))) := fun h1 h2 => upTo_here hlt hfree h1 h2
            have HN : Hid (¬ (L[k].a = a ∧ L[k].b = b) → freeOf (L.take (k + 1)) a b) := fun h => by rw [take_next hlt]; exact freeOf_more hfree h
            have hlt' : (k : Int) < (L.length : Int) := by omega
            have hk0 : (0 : Int) ≤ (k : Int) := by omega
            generalize L[k].a = xa at *
            generalize L[k].b = xb at *
            generalize L[k].z = xz at *
            generalize nShown (L.take k) = ns at *
            clear hB hfree i0 i1 i2 i3 k0 k1
            cases xz
            all_goals
              by_cases hab : xa = a ∧ xb = b
              · have HYY := hideIt (HY.out hab.1 hab.2)
                obtain ⟨rfl, rfl⟩ := hab
                first | (have HX := hideIt (HT.out rfl)) | (have HX := hideIt (HG.out rfl))
                clear HT HG HY HN
                go_wp2
                go_quiet (fail)
                go_wp2
                first
                  | exact bodyPost_ret (v := .tuple #[.int .i64 ((ns : Int) + 1), .bool true]) (by simp [results, Tryd.results96, go_sem]) rfl ⟨by rw [HM.out, HYY.out, HX.out]; rfl, below_drewN HB.out _⟩
                  | exact bodyPost_ret (v := .tuple #[.int .i64 (ns : Int), .bool true]) (by simp [results, Tryd.results96, go_sem]) rfl ⟨by rw [HM.out, HYY.out, HX.out]; rfl, below_drewN HB.out _⟩
              · have HNN := hideIt (HN.out hab)
                have hor2 : xa ≠ a ∨ xb ≠ b := by omega
                first | (have HX := hideIt (HT.out rfl)) | (have HX := hideIt (HG.out rfl))
                clear HT HG HY HN hab
                by_cases hxa : xa = a
                · subst hxa
                  have hxb : ¬ xb = b := by omega
                  go_wp2
                  go_quiet (fail)
                  go_wp2
                  exact ⟨⟨k + 1, by omega, by go_num, by rw [HX.out]; try first | rfl | go_num, HNN.out, below_drewN HBW.out _⟩, by simp [intOf]; omega⟩
                · go_wp2
                  go_quiet (fail)
                  go_wp2
                  exact ⟨⟨k + 1, by omega, by go_num, by rw [HX.out]; try first | rfl | go_num, HNN.out, below_drewN HBW.out _⟩, by simp [intOf]; omega⟩
          · obtain rfl : k = L.length := by omega
            have HE : Hid (upTo a b L 0 = none) := by have h := HF.out; rw [List.take_length] at h; exact upTo_free h
            go_wp2
            exact bodyPost_ret (v := .tuple #[.int .i64 0, .bool false]) (by simp [results, Tryd.results96, go_sem]) rfl ⟨by rw [HM.out, HE.out]; rfl, HB.out⟩
end Go.Proofs.YtjgbickelgkljaaDoor

namespace Go.Proofs.YtjgbickelgkljaaDoor
open Go.RowKit Go.Shelf
set_option linter.unusedSimpArgs false
set_option linter.unusedVariables false
attribute [local go_sem ↓] Go.wp_at_zero Go.wp_at_succ

set_option maxRecDepth 100000 in
set_option maxHeartbeats 2000000 in
theorem implPlace_any (l : List Op7) (g cap : Nat) (a b : Int) (x : Addr) (w : World) (hl : OpsAt w g l) (hn : l.length ≤ 1048576) (hcap : l.length ≤ cap)
    (he : w.cell? ⟨0, 0, none⟩ = some (.iface 183 (.pointer (some x)))) (h0 : 0 < w.heap.size) :
    Calls Tryd.prog 52 #[.slice (some ⟨g, 0, none⟩) l.length cap, .agg #[.int .i64 a, .int .i64 b]] w fun e w' => e = .returned (plV (markP l a b)) ∧ Below w.heap.size w w' := by
  have HL := hideIt hl
  have hgw := hl.1
  clear hl
  have HB0 : Hid (Below w.heap.size w (w.alloc (.cells #[.int .i64 a, .int .i64 b] 31))) := (Below.refl _ _).alloc (Nat.le_refl _) _
  have HM0 : Hid ((w.alloc (.cells #[.int .i64 a, .int .i64 b] 31)).heap[w.heap.size]? = some (.cells #[.int .i64 a, .int .i64 b] 31 (0, 0))) := World.alloc_heap_new _ _
  go_enter Tryd.func52, Tryd.ntmps52
  go_wp2_with fail
  generalize w.alloc (.cells #[.int .i64 a, .int .i64 b] 31) = W0 at *
  refine (treeOf_any l g cap x _ (HL.out.below HB0.out hgw) hn hcap (errB HB0.out h0 he) (posB HB0.out h0)).mono ?_
  rintro e w1 ⟨(⟨ht, b1, b2, b3, base, rfl, hT⟩ | ⟨ht, rfl⟩), hb1⟩
  all_goals
    have HO := hideIt ht
    have HB1 := hideIt (Bstep HB0.out hb1)
    have hm1 := blk_below HM0.out hb1
    have herr1 : w1.cell? ⟨0, 0, none⟩ = some (.iface 183 (.pointer (some x))) := errB HB1.out h0 he
    have hp1 : 0 < w1.heap.size := posB HB1.out h0
    have m0 := (blk_cell hm1 0).trans rfl
    have m1 := (blk_cell hm1 1).trans rfl
    have hmw : w.heap.size < w1.heap.size := (Array.getElem?_eq_some_iff.1 hm1).1
    clear ht hb1 hm1
  · have HTT := hideIt hT
    have HE : Hid (markP l a b = placeM l a b) := by show markP l a b = _; unfold markP; rw [HO.out]; rfl
    clear hT
    go_wp2_with (first | (go_at_call 66; refine (is_nil x _).mono ?_; rintro e w'' ⟨rfl, rfl⟩))
    have HB2 : Hid (Below w1.heap.size w1 (w1.alloc (.cells #[.map (some b1), .map (some b2), .map (some b3)] 108))) := (Below.refl _ _).alloc (Nat.le_refl _) _
    refine (callsIn_wide.1 (countUp_in l HO.out hn w1 b1 b2 b3 base HTT.out 3 (Nat.le_refl _) a b x _ HB2.out (errB HB2.out hp1 herr1) (posB HB2.out hp1))).mono ?_
    rintro e w3 ⟨(⟨k, hk, rfl⟩ | ⟨hk, rfl⟩), hb3⟩
    all_goals
      have HB3 := hideIt (Bstep (Bstep HB1.out HB2.out) hb3)
      have HK := hideIt (HE.out.trans hk)
      have herr3 : w3.cell? ⟨0, 0, none⟩ = some (.iface 183 (.pointer (some x))) := errB HB3.out h0 he
      clear hk hb3 m0 m1
    · go_wp2_with (first | (go_at_call 66; refine (is_nil x _).mono ?_; rintro e w'' ⟨rfl, rfl⟩))
      exact bodyPost_ret (v := .tuple #[.int .i64 (k : Nat), .bool true]) (by simp [results, Tryd.results52, go_sem]) rfl ⟨by rw [HK.out]; rfl, HB3.out⟩
    · go_wp2_with (first | (go_at_call 66; refine (is_same x _).mono ?_; rintro e w'' ⟨rfl, rfl⟩))
      exact bodyPost_ret (v := .tuple #[.int .i64 0, .bool false]) (by simp [results, Tryd.results52, go_sem]) rfl ⟨by rw [HK.out]; rfl, HB3.out⟩
  · have HE : Hid (markP l a b = none) := by show markP l a b = _; unfold markP; rw [HO.out]; rfl
    go_wp2_with (first | (go_at_call 66; refine (is_same x _).mono ?_; rintro e w'' ⟨rfl, rfl⟩))
    exact bodyPost_ret (v := .tuple #[.int .i64 0, .bool false]) (by simp [results, Tryd.results52, go_sem]) rfl ⟨by rw [HE.out]; rfl, HB1.out.alloc HB1.out.size _⟩
end Go.Proofs.YtjgbickelgkljaaDoor

namespace Go.Proofs.YtjgbickelgkljaaDoor
open Go.RowKit Go.Shelf
set_option linter.unusedSimpArgs false
set_option linter.unusedVariables false
attribute [local go_sem ↓] Go.wp_at_zero Go.wp_at_succ

/-- The text from one mark to another one. -/
def spanT (l : List Op7) (a b c d : Int) : ByteArray := match markP l a b, markP l c d with
  | some f, some t => if f ≤ t then (txtB (shown (lfs l (standL l)))).extract f t else txtB []
  | _, _ => txtB []
theorem span_no1 {l : List Op7} {a b c d : Int} (h : markP l a b = none) : spanT l a b c d = txtB [] := by unfold spanT; rw [h]
theorem span_no2 {l : List Op7} {a b c d : Int} (h : markP l c d = none) : spanT l a b c d = txtB [] := by unfold spanT; rw [h]; cases markP l a b <;> rfl
theorem span_back {l : List Op7} {a b c d : Int} {f t : Nat} (h1 : markP l a b = some f) (h2 : markP l c d = some t) (h : t < f) : spanT l a b c d = txtB [] := by unfold spanT; rw [h1, h2]; simp only; rw [if_neg (by omega)]
theorem span_yes {l : List Op7} {a b c d : Int} {f t : Nat} (h1 : markP l a b = some f) (h2 : markP l c d = some t) (h : f ≤ t) : spanT l a b c d = (txtB (shown (lfs l (standL l)))).extract f t := by unfold spanT; rw [h1, h2]; simp only; rw [if_pos h]
theorem nShown_text (L : List Lf) : (txtB (shown L)).size = nShown L := by rw [txtB_size]; simp [shown, nShown]
/-- The boxes of the two marks. -/
structure MB (a b c d : Int) (w W : World) : Prop where
  one : W.heap[w.heap.size]? = some (.cells #[.int .i64 a, .int .i64 b] 31 (0, 0))
  two : W.heap[w.heap.size + 1]? = some (.cells #[.int .i64 c, .int .i64 d] 31 (0, 0))
  bel : Below w.heap.size w W
theorem MB.below {a b c d : Int} {w W W' : World} (h : MB a b c d w W) (hb : Below W.heap.size W W') : MB a b c d w W' := ⟨blk_below h.one hb, blk_below h.two hb, Bstep h.bel hb⟩
theorem MB.start (a b c d : Int) (w : World) : MB a b c d w ((w.alloc (.cells #[.int .i64 a, .int .i64 b] 31)).alloc (.cells #[.int .i64 c, .int .i64 d] 31)) := by
  refine ⟨(Below.heap_alloc _ _ _ (by simp)).trans (World.alloc_heap_new _ _), ?_, ((Below.refl _ _).alloc (Nat.le_refl _) _).alloc (by simp) _⟩
  have h := World.alloc_heap_new (w.alloc (.cells #[.int .i64 a, .int .i64 b] 31)) (.cells #[.int .i64 c, .int .i64 d] 31)
  rw [World.size_alloc] at h
  exact h

set_option maxRecDepth 100000 in
set_option maxHeartbeats 1000000 in
theorem specSpan_any (l : List Op7) (g cap : Nat) (a b c d : Int) (w : World) (hl : OpsAt w g l) (hn : l.length ≤ 1048576) (hcap : l.length ≤ cap) :
    Calls Tryd.prog 55 #[.slice (some ⟨g, 0, none⟩) l.length cap, .agg #[.int .i64 a, .int .i64 b], .agg #[.int .i64 c, .int .i64 d]] w fun e w' => e = .returned (.string (spanT l a b c d)) ∧ Below w.heap.size w w' := by
  have HL := hideIt hl
  have hgw := hl.1
  clear hl
  have HM0 := hideIt (MB.start a b c d w)
  go_enter Tryd.func55, Tryd.ntmps55
  go_wp2_with fail
  generalize (w.alloc (.cells #[.int .i64 a, .int .i64 b] 31)).alloc (.cells #[.int .i64 c, .int .i64 d] 31) = W0 at *
  refine (specPlace_any l _ _ a b _ (HL.out.below HM0.out.bel hgw) hn hcap).mono ?_
  rintro e w1 ⟨rfl, hb1⟩
  have HM1 := hideIt (HM0.out.below hb1)
  have c0 := (blk_cell HM1.out.two 0).trans rfl
  have c1 := (blk_cell HM1.out.two 1).trans rfl
  unfold plV
  clear hb1 HM0
  go_wp2_with fail
  refine (specPlace_any l _ _ c d _ (HL.out.below HM1.out.bel hgw) hn hcap).mono ?_
  rintro e w2 ⟨rfl, hb2⟩
  have HM2 := hideIt (HM1.out.below hb2)
  unfold plV
  clear hb2 HM1 c0 c1
  cases h1 : markP l a b with
  | none =>
    have HE := hideIt (span_no1 (c := c) (d := d) h1)
    clear h1
    generalize pN (markP l c d) = q at *
    generalize pB (markP l c d) = z at *
    simp only [pN, pB]
    go_wp2
    go_ret
    rw [HE.out]
    exact ⟨rfl, HM2.out.bel⟩
  | some f =>
    cases h2 : markP l c d with
    | none =>
      have HE := hideIt (span_no2 (a := a) (b := b) h2)
      clear h1 h2
      simp only [pN, pB]
      go_wp2
      go_ret
      rw [HE.out]
      exact ⟨rfl, HM2.out.bel⟩
    | some t =>
      by_cases hft : t < f
      · have HE := hideIt (span_back h1 h2 hft)
        have hft' : (t : Int) < (f : Int) := by omega
        clear h1 h2
        simp only [pN, pB]
        go_wp2
        go_ret
        rw [HE.out]
        exact ⟨rfl, HM2.out.bel⟩
      · have HE := hideIt (span_yes h1 h2 (by omega))
        have hft' : ¬ (t : Int) < (f : Int) := by omega
        have hft2 : (f : Int) ≤ (t : Int) := by omega
        have hts := markP_le h2
        rw [← nShown_text] at hts
        have hts' : (t : Int) ≤ ((txtB (shown (lfs l (standL l)))).size : Int) := by omega
        have hf0 : (0 : Int) ≤ (f : Int) := by omega
        have ht0 : (0 : Int) ≤ (t : Int) := by omega
        clear h1 h2
        simp only [pN, pB]
        go_wp2_with fail
        refine (specTxt_any l _ _ _ (HL.out.below HM2.out.bel hgw) hn hcap).mono ?_
        rintro e w3 ⟨rfl, hb3⟩
        have HB3 := hideIt (Bstep HM2.out.bel hb3)
        clear hb3
        generalize txtB (shown (lfs l (standL l))) = T at *
        go_wp2
        go_ret
        exact ⟨by rw [HE.out]; rfl, HB3.out⟩

set_option maxRecDepth 100000 in
set_option maxHeartbeats 1000000 in
theorem implSpan_any (l : List Op7) (g cap : Nat) (a b c d : Int) (x : Addr) (w : World) (hl : OpsAt w g l) (hn : l.length ≤ 1048576) (hcap : l.length ≤ cap)
    (he : w.cell? ⟨0, 0, none⟩ = some (.iface 183 (.pointer (some x)))) (h0 : 0 < w.heap.size) :
    Calls Tryd.prog 54 #[.slice (some ⟨g, 0, none⟩) l.length cap, .agg #[.int .i64 a, .int .i64 b], .agg #[.int .i64 c, .int .i64 d]] w fun e w' => e = .returned (.string (spanT l a b c d)) ∧ Below w.heap.size w w' := by
  have HL := hideIt hl
  have hgw := hl.1
  clear hl
  have HM0 := hideIt (MB.start a b c d w)
  go_enter Tryd.func54, Tryd.ntmps54
  go_wp2_with fail
  generalize (w.alloc (.cells #[.int .i64 a, .int .i64 b] 31)).alloc (.cells #[.int .i64 c, .int .i64 d] 31) = W0 at *
  refine (implPlace_any l _ _ a b x _ (HL.out.below HM0.out.bel hgw) hn hcap (errB HM0.out.bel h0 he) (posB HM0.out.bel h0)).mono ?_
  rintro e w1 ⟨rfl, hb1⟩
  have HM1 := hideIt (HM0.out.below hb1)
  have c0 := (blk_cell HM1.out.two 0).trans rfl
  have c1 := (blk_cell HM1.out.two 1).trans rfl
  unfold plV
  clear hb1 HM0
  go_wp2_with fail
  refine (implPlace_any l _ _ c d x _ (HL.out.below HM1.out.bel hgw) hn hcap (errB HM1.out.bel h0 he) (posB HM1.out.bel h0)).mono ?_
  rintro e w2 ⟨rfl, hb2⟩
  have HM2 := hideIt (HM1.out.below hb2)
  unfold plV
  clear hb2 HM1 c0 c1
  cases h1 : markP l a b with
  | none =>
    have HE := hideIt (span_no1 (c := c) (d := d) h1)
    clear h1
    generalize pN (markP l c d) = q at *
    generalize pB (markP l c d) = z at *
    simp only [pN, pB]
    go_wp2
    go_ret
    rw [HE.out]
    exact ⟨rfl, HM2.out.bel⟩
  | some f =>
    cases h2 : markP l c d with
    | none =>
      have HE := hideIt (span_no2 (a := a) (b := b) h2)
      clear h1 h2
      simp only [pN, pB]
      go_wp2
      go_ret
      rw [HE.out]
      exact ⟨rfl, HM2.out.bel⟩
    | some t =>
      by_cases hft : t < f
      · have HE := hideIt (span_back h1 h2 hft)
        have hft' : (t : Int) < (f : Int) := by omega
        clear h1 h2
        simp only [pN, pB]
        go_wp2
        go_ret
        rw [HE.out]
        exact ⟨rfl, HM2.out.bel⟩
      · have HE := hideIt (span_yes h1 h2 (by omega))
        have hft' : ¬ (t : Int) < (f : Int) := by omega
        have hft2 : (f : Int) ≤ (t : Int) := by omega
        have hts := markP_le h2
        rw [← nShown_text] at hts
        have hts' : (t : Int) ≤ ((txtB (shown (lfs l (standL l)))).size : Int) := by omega
        have hf0 : (0 : Int) ≤ (f : Int) := by omega
        have ht0 : (0 : Int) ≤ (t : Int) := by omega
        clear h1 h2
        simp only [pN, pB]
        go_wp2_with fail
        refine (implTxt_any l _ _ x _ (HL.out.below HM2.out.bel hgw) hn hcap (errB HM2.out.bel h0 he) (posB HM2.out.bel h0)).mono ?_
        rintro e w3 ⟨rfl, hb3⟩
        have HB3 := hideIt (Bstep HM2.out.bel hb3)
        clear hb3
        generalize txtB (shown (lfs l (standL l))) = T at *
        go_wp2
        go_ret
        exact ⟨by rw [HE.out]; rfl, HB3.out⟩
end Go.Proofs.YtjgbickelgkljaaDoor

namespace Go.Proofs.YtjgbickelgkljaaDoor
open Go.RowKit
set_option linter.unusedSimpArgs false
set_option linter.unusedVariables false
attribute [local go_sem ↓] Go.wp_at_zero Go.wp_at_succ

/-- An id of a thing, or a small one. -/
def IdIn (L : List Op7) (r m : Int) : Prop := (∃ o ∈ L, o.a = r ∧ o.b = m) ∨ (-2 ≤ r ∧ r ≤ 20 ∧ -2 ≤ m ∧ m ≤ 20)

set_option maxRecDepth 100000 in
set_option maxHeartbeats 1000000 in
theorem l71SomeL_any (w : World) (q : Nat) (p : Option Addr) (n cap k base G c : Nat) (L : List Op7) (hm : L.length ≤ 74) (h : RdAt w q p n cap k) (hk : k ≤ 100000) (hs : OwnOps w base G c L) (hq : q < base) (hqw : q < w.heap.size) :
    Calls Tryd.prog 78 #[.pointer (some ⟨q, 0, none⟩), .slice (some ⟨G, 0, none⟩) L.length c] w fun e w' => (∃ r m : Int, IdIn L r m ∧ e = .returned (.agg #[.int .i64 r, .int .i64 m])) ∧ (∃ k', k' ≤ k + 4 ∧ RdAt w' q p n cap k') ∧ OnlyQ q w w' := by
  have H := hideIt h
  have HS := hideIt hs
  clear h hs
  have hne : ¬ w.heap.size = q := by omega
  have hne' : ¬ q = w.heap.size := by omega
  by_cases h0 : L.length = 0
  · have h0' : (L.length : Int) = 0 := by omega
    go_enter Tryd.func78, Tryd.ntmps78
    go_wp2_with fail
    refine (l71Id_small _ q p n cap k (H.out.alloc _) (by omega)).mono ?_
    rintro e w9 ⟨⟨a, b, hsm, rfl⟩, ⟨k9, hk9, hR9⟩, hO8⟩
    have s0 : w9.cell? ⟨w.heap.size, 0, none⟩ = some (.int .i64 0) := by rw [hO8.cell _ _ (by simp) (by omega)]; simp [go_sem]
    have s1 : w9.cell? ⟨w.heap.size, 1, none⟩ = some (.int .i64 0) := by rw [hO8.cell _ _ (by simp) (by omega)]; simp [go_sem]
    have sf : ∀ j, w9.frozen? ⟨w.heap.size, j, none⟩ = false := fun j => by rw [hO8.frozen _ _ (by simp) (by omega)]; simp [go_sem]
    have HR9 := hideIt hR9
    have HO9 := hideIt (((OnlyQ.refl q w).alloc hqw _).trans hO8)
    clear hR9 hO8
    go_wp2
    have hO9 := (HO9.out.set hqw (g := w.heap.size) (Nat.le_refl _) 0 (.int .i64 a)).set hqw (g := w.heap.size) (Nat.le_refl _) 1 (.int .i64 b)
    exact bodyPost_ret (v := .agg #[.int .i64 a, .int .i64 b]) (by simp [results, Tryd.results78, go_sem, s0, s1]) rfl ⟨⟨_, _, .inr hsm, rfl⟩, ⟨k9, by omega, H.out.fin HR9.out hO9 (fun o => by simp [go_sem, hne, hne']) (fun o => by simp)⟩, hO9⟩
  · go_enter Tryd.func78, Tryd.ntmps78
    go_wp2_with fail
    refine (pick_any _ q p n cap k 6 (H.out.alloc _) (by omega) (by omega) (by omega)).mono ?_
    rintro e w1 ⟨⟨x, hx0, hx1, rfl⟩, hR1, hO1⟩
    have r0 : w1.cell? ⟨w.heap.size, 0, none⟩ = some (.int .i64 0) := by rw [hO1.cell _ _ (by simp) (by omega)]; simp [go_sem]
    have r1 : w1.cell? ⟨w.heap.size, 1, none⟩ = some (.int .i64 0) := by rw [hO1.cell _ _ (by simp) (by omega)]; simp [go_sem]
    have rf : ∀ j, w1.frozen? ⟨w.heap.size, j, none⟩ = false := fun j => by rw [hO1.frozen _ _ (by simp) (by omega)]; simp [go_sem]
    have hs1 : w.heap.size < w1.heap.size := by have := hO1.size; simp at this; omega
    have HS1 := hideIt ((HS.out.below ((Below.refl _ _).alloc (Nat.le_refl _) _)).only hO1 (by have := HS.out.lt.1; omega))
    have HR1 := hideIt hR1
    have HO1 := hideIt (((OnlyQ.refl q w).alloc hqw _).trans hO1)
    clear hR1 hO1
    by_cases hz : x = 0
    · subst hz
      go_wp2_with fail
      refine (l71Id_small _ q p n cap (k + 1) HR1.out (by omega)).mono ?_
      rintro e w9 ⟨⟨a, b, hsm, rfl⟩, ⟨k9, hk9, hR9⟩, hO8⟩
      have s0 : w9.cell? ⟨w.heap.size, 0, none⟩ = some (.int .i64 0) := by rw [hO8.cell _ _ (by omega) (by omega)]; exact r0
      have s1 : w9.cell? ⟨w.heap.size, 1, none⟩ = some (.int .i64 0) := by rw [hO8.cell _ _ (by omega) (by omega)]; exact r1
      have sf : ∀ j, w9.frozen? ⟨w.heap.size, j, none⟩ = false := fun j => by rw [hO8.frozen _ _ (by omega) (by omega)]; exact rf j
      have HR9 := hideIt hR9
      have HO9 := hideIt (HO1.out.trans hO8)
      clear hR9 hO8
      go_wp2
      have hO9 := (HO9.out.set hqw (g := w.heap.size) (Nat.le_refl _) 0 (.int .i64 a)).set hqw (g := w.heap.size) (Nat.le_refl _) 1 (.int .i64 b)
      exact bodyPost_ret (v := .agg #[.int .i64 a, .int .i64 b]) (by simp [results, Tryd.results78, go_sem, s0, s1]) rfl ⟨⟨_, _, .inr hsm, rfl⟩, ⟨k9, by omega, H.out.fin HR9.out hO9 (fun o => by simp [go_sem, hne, hne']) (fun o => by simp)⟩, hO9⟩
    · have hpos : (0 : Int) < x := by omega
      go_wp2_with fail
      refine (pick_any _ q p n cap (k + 1) _ HR1.out (by omega) (by omega) (by omega)).mono ?_
      rintro e w2 ⟨⟨y, hy0, hy1, rfl⟩, hR2, hO2⟩
      obtain ⟨j, rfl⟩ := Int.eq_ofNat_of_zero_le hy0
      have s0 : w2.cell? ⟨w.heap.size, 0, none⟩ = some (.int .i64 0) := by rw [hO2.cell _ _ (by omega) (by omega)]; exact r0
      have s1 : w2.cell? ⟨w.heap.size, 1, none⟩ = some (.int .i64 0) := by rw [hO2.cell _ _ (by omega) (by omega)]; exact r1
      have sf : ∀ j, w2.frozen? ⟨w.heap.size, j, none⟩ = false := fun j => by rw [hO2.frozen _ _ (by omega) (by omega)]; exact rf j
      obtain ⟨y0, y1, _⟩ := (HS1.out.only hO2 (by have := HS1.out.lt.1; omega)).at.2 j (L[j]'(by omega)) (by simp)
      have HID : Hid (IdIn L (L[j]'(by omega)).a (L[j]'(by omega)).b) := .inl ⟨L[j]'(by omega), List.getElem_mem _, rfl, rfl⟩
      generalize (L[j]'(by omega)) = o at *
      have HR9 := hideIt hR2
      have HO9 := hideIt (HO1.out.trans hO2)
      clear hR2 hO2 r0 r1 rf
      generalize o.a = oa at *
      generalize o.b = ob at *
      go_wp2
      have hO9 := (HO9.out.set hqw (g := w.heap.size) (Nat.le_refl _) 0 (.int .i64 oa)).set hqw (g := w.heap.size) (Nat.le_refl _) 1 (.int .i64 ob)
      exact bodyPost_ret (v := .agg #[.int .i64 oa, .int .i64 ob]) (by simp [results, Tryd.results78, go_sem, s0, s1]) rfl ⟨⟨_, _, HID.out, rfl⟩, ⟨k + 1 + 1, by omega, H.out.fin HR9.out hO9 (fun o => by simp [go_sem, hne, hne']) (fun o => by simp)⟩, hO9⟩
/-- An id in its box, that may be written. -/
structure Bx (W : World) (A : Nat) (r m : Int) : Prop where
  x0 : W.cell? ⟨A, 0, none⟩ = some (.int .i64 r)
  x1 : W.cell? ⟨A, 1, none⟩ = some (.int .i64 m)
  fz : ∀ j, W.frozen? ⟨A, j, none⟩ = false
  lt : A < W.heap.size
theorem Bx.below {W W' : World} {A : Nat} {r m : Int} (h : Bx W A r m) (hb : Below W.heap.size W W') : Bx W' A r m :=
  ⟨((bcell hb).1 _ _ h.lt).trans h.x0, ((bcell hb).1 _ _ h.lt).trans h.x1, fun j => ((bcell hb).2 _ _ h.lt).trans (h.fz j), Nat.lt_of_lt_of_le h.lt hb.size⟩
theorem Bx.only {W W' : World} {A q : Nat} {r m : Int} (h : Bx W A r m) (ho : OnlyQ q W W') (hne : A ≠ q) : Bx W' A r m :=
  ⟨(ho.cell _ _ h.lt hne).trans h.x0, (ho.cell _ _ h.lt hne).trans h.x1, fun j => (ho.frozen _ _ h.lt hne).trans (h.fz j), Nat.lt_of_lt_of_le h.lt ho.size⟩
theorem Bx.new (W : World) (r m : Int) (T : TypeId) : Bx (W.alloc (.cells #[.int .i64 r, .int .i64 m] T)) W.heap.size r m :=
  ⟨by simp [go_sem], by simp [go_sem], fun j => by simp [go_sem], by simp⟩
theorem Bx.put {W : World} {A : Nat} {r m : Int} (h : Bx W A r m) (r' m' : Int) : Bx ((W.setCell ⟨A, 0, none⟩ (.int .i64 r')).setCell ⟨A, 1, none⟩ (.int .i64 m')) A r' m' := by
  have x0 := h.x0
  have x1 := h.x1
  exact ⟨by simp [go_sem, x0, x1], by simp [go_sem, x0, x1], fun j => by simp [h.fz], by simpa using h.lt⟩
theorem Bx.other {W : World} {A A' : Nat} {r m : Int} (h : Bx W A r m) (hne : A ≠ A') (u v : Value) : Bx ((W.setCell ⟨A', 0, none⟩ u).setCell ⟨A', 1, none⟩ v) A r m := by
  have hc : ∀ i, ((W.setCell ⟨A', 0, none⟩ u).setCell ⟨A', 1, none⟩ v).cell? ⟨A, i, none⟩ = W.cell? ⟨A, i, none⟩ := fun i => by
    rw [World.cell?_setCell_other _ _ _ _ (by intro he; have := congrArg Addr.block he; simp at this; omega), World.cell?_setCell_other _ _ _ _ (by intro he; have := congrArg Addr.block he; simp at this; omega)]
  exact ⟨(hc _).trans h.x0, (hc _).trans h.x1, fun j => by rw [World.frozen?_setCell, World.frozen?_setCell]; exact h.fz j, by simpa using h.lt⟩
theorem fin4b {w W : World} {r1 : Nat} (hb : Below w.heap.size w W) (h1 : w.heap.size ≤ r1) (u0 u1 v0 v1 : Value) : Below w.heap.size w ((((W.setCell ⟨w.heap.size, 0, none⟩ u0).setCell ⟨w.heap.size, 1, none⟩ u1).setCell ⟨r1, 0, none⟩ v0).setCell ⟨r1, 1, none⟩ v1).drew :=
  ((((hb.setCell (p := ⟨w.heap.size, 0, none⟩) (Nat.le_refl _) u0).setCell (p := ⟨w.heap.size, 1, none⟩) (Nat.le_refl _) u1).setCell (p := ⟨r1, 0, none⟩) h1 v0).setCell (p := ⟨r1, 1, none⟩) h1 v1).drew
theorem fin4o {W : World} {base G c r0 r1 : Nat} {L : List Op7} (h : OwnOps W base G c L) (h0 : G ≠ r0) (h1 : G ≠ r1) (u0 u1 v0 v1 : Value) : OwnOps ((((W.setCell ⟨r0, 0, none⟩ u0).setCell ⟨r0, 1, none⟩ u1).setCell ⟨r1, 0, none⟩ v0).setCell ⟨r1, 1, none⟩ v1).drew base G c L :=
  ((((h.set h0 u0).set h0 u1).set h1 v0).set h1 v1).below ((Below.refl _ _).drew)
/-- Where the drawing of two ids stands. -/
structure DU (w wS wr : World) (q G c : Nat) (L : List Op7) (A B : Nat) (ar am br bm : Int) : Prop where
  only : OnlyQ q wS wr
  own : OwnOps wr wS.heap.size G c L
  a : Bx wr A ar am
  b : Bx wr B br bm
  ia : IdIn L ar am
  ib : IdIn L br bm
theorem DU.below {w wS wr w' : World} {q G c A B : Nat} {L : List Op7} {ar am br bm : Int} (h : DU w wS wr q G c L A B ar am br bm) (hq : q < wS.heap.size) (hb : Below wr.heap.size wr w') : DU w wS w' q G c L A B ar am br bm :=
  ⟨h.only.then hq hb, h.own.below hb, h.a.below hb, h.b.below hb, h.ia, h.ib⟩
theorem DU.next {w wS wr w' : World} {q G c A B : Nat} {L : List Op7} {ar am br bm : Int} (h : DU w wS wr q G c L A B ar am br bm) (hq : q < wS.heap.size) (hA : wS.heap.size ≤ A) (hB : wS.heap.size ≤ B) (ho : OnlyQ q wr w') : DU w wS w' q G c L A B ar am br bm :=
  ⟨h.only.trans ho, h.own.only ho (by have := h.own.lt.1; omega), h.a.only ho (by omega), h.b.only ho (by omega), h.ia, h.ib⟩
theorem DU.setA {w wS wr : World} {q G c A B : Nat} {L : List Op7} {ar am br bm : Int} (h : DU w wS wr q G c L A B ar am br bm) (hq : q < wS.heap.size) (hA : wS.heap.size ≤ A) (hAB : A ≠ B) (hAG : G ≠ A) (r m : Int) (hi : IdIn L r m) : DU w wS ((wr.setCell ⟨A, 0, none⟩ (.int .i64 r)).setCell ⟨A, 1, none⟩ (.int .i64 m)) q G c L A B r m br bm :=
  ⟨(h.only.set hq hA 0 _).set hq hA 1 _, (h.own.set hAG _).set hAG _, h.a.put r m, h.b.other (Ne.symm hAB) _ _, hi, h.ib⟩
theorem DU.setB {w wS wr : World} {q G c A B : Nat} {L : List Op7} {ar am br bm : Int} (h : DU w wS wr q G c L A B ar am br bm) (hq : q < wS.heap.size) (hB : wS.heap.size ≤ B) (hAB : A ≠ B) (hBG : G ≠ B) (r m : Int) (hi : IdIn L r m) : DU w wS ((wr.setCell ⟨B, 0, none⟩ (.int .i64 r)).setCell ⟨B, 1, none⟩ (.int .i64 m)) q G c L A B ar am r m :=
  ⟨(h.only.set hq hB 0 _).set hq hB 1 _, (h.own.set hBG _).set hBG _, h.a.other hAB _ _, h.b.put r m, h.ia, hi⟩

end Go.Proofs.YtjgbickelgkljaaDoor
