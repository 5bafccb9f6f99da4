/- The contract of the program's MarkAt. -/
import Derived.Test.YtjgbickelgkljaaDoorPackC
import Derived.Test.YtjgbickelgkljaaDoorPackA
import Derived.Test.YtjgbickelgkljaaDoorPackG
import Derived.Test.YtjgbickelgkljaaDoorPackH
namespace Go.Proofs.YtjgbickelgkljaaDoor
open Go.RowKit
set_option linter.unusedSimpArgs false
set_option linter.unusedVariables false
attribute [local go_sem ↓] Go.wp_at_zero Go.wp_at_succ

/-- What MarkPlace answers, as a value. -/
def plV (p : Option Nat) : Value := .tuple #[.int .i64 (pN p), .bool (pB p)]
theorem take_next {L : List Lf} {k : Nat} (h : k < L.length) : L.take (k + 1) = L.take k ++ [L[k]] := List.take_succ_eq_append_getElem h
theorem upTo_here {L : List Lf} {k : Nat} {a b : Int} (h : k < L.length) (hf : freeOf (L.take k) a b) (ha : L[k].a = a) (hb : L[k].b = b) : upTo a b L 0 = some (nShown (L.take (k + 1))) := by
  have e : L = L.take k ++ L[k] :: L.drop (k + 1) := by rw [← List.drop_eq_getElem_cons h, List.take_append_drop]
  have h1 := upTo_at (t := L.drop (k + 1)) (n := 0) hf ha hb
  rw [← e] at h1
  rw [h1, take_next h, Nat.zero_add]

set_option maxRecDepth 100000 in
set_option maxHeartbeats 1000000 in
theorem specPlace_any (l : List Op7) (g cap : Nat) (a b : Int) (w : World) (hl : OpsAt w g l) (hn : l.length ≤ 1048576) (hcap : l.length ≤ cap) :
    Calls Tryd.prog 96 #[.slice (some ⟨g, 0, none⟩) l.length cap, .agg #[.int .i64 a, .int .i64 b]] w fun e w' => e = .returned (plV (markP l a b)) ∧ Below w.heap.size w w' := by
  have HL := hideIt hl
  have hgw := hl.1
  clear hl
  cases ho : opsB l
  all_goals
    have HO := hideIt ho
    clear ho
    go_enter Tryd.func96, Tryd.ntmps96
    go_wp2_with fail
    refine (specOps_any l _ _ _ (HL.out.below ((Below.refl _ _).alloc (Nat.le_refl _) _) hgw) hn hcap).mono ?_
    rintro e w1 ⟨rfl, hb1⟩
    rw [HO.out]
    have HB1 : Hid (Below w.heap.size w w1) := ((Below.refl _ _).alloc (Nat.le_refl _) _).trans (hb1.mono (by simp))
    have c0 : w1.cell? ⟨w.heap.size, 0, none⟩ = some (.int .i64 a) := ((bcell hb1).1 _ _ (by simp)).trans (by simp [go_sem])
    have c1 : w1.cell? ⟨w.heap.size, 1, none⟩ = some (.int .i64 b) := ((bcell hb1).1 _ _ (by simp)).trans (by simp [go_sem])
    have hw1 : w.heap.size < w1.heap.size := by have := hb1.size; simp at this; omega
    clear hb1
  · have HM : Hid (markP l a b = none) := by show markP l a b = none; unfold markP; rw [HO.out]; rfl
    go_wp2
    exact bodyPost_ret (v := .tuple #[.int .i64 0, .bool false]) (by simp [results, Tryd.results96, go_sem]) rfl ⟨by rw [HM.out]; rfl, HB1.out⟩
  · by_cases hz : a = 0 ∧ b = 0
    · have HM : Hid (markP l a b = some 0) := by show markP l a b = some 0; unfold markP placeM; rw [HO.out, if_pos hz]; rfl
      obtain ⟨rfl, rfl⟩ := hz
      go_wp2
      exact bodyPost_ret (v := .tuple #[.int .i64 0, .bool true]) (by simp [results, Tryd.results96, go_sem]) rfl ⟨by rw [HM.out]; rfl, HB1.out⟩
    · have HM : Hid (markP l a b = upTo a b (lfs l (allO l)) 0) := by show markP l a b = _; unfold markP placeM; rw [HO.out, if_neg hz]; rfl
      have hor : a ≠ 0 ∨ b ≠ 0 := by omega
      clear hz
      go_wp2_with fail
      all_goals
        refine (l2Leaves_any l HO.out _ _ _ (HL.out.below HB1.out hgw) hn hcap).mono ?_
        rintro e w2 ⟨G, c, rfl, hr, hb2⟩
        rw [lfs_cells, ← lfs_len l (allO l)] at hr
        rw [← lfs_len l (allO l)]
        have hG := (hr.lt G rfl).2
        have hc : (lfs l (allO l)).length ≤ c := by
          rcases hr.2 with ⟨h, _⟩ | ⟨g', c', cur, h, _, _, h2, _⟩
          · cases h
          · cases h; exact h2
        have hln : (lfs l (allO l)).length ≤ 1048576 := by rw [lfs_len]; exact Nat.le_trans (all_len HO.out) hn
        have HC : Hid (∀ j, j < (lfs l (allO l)).length * 4 → w2.cell? ⟨G, j, none⟩ = (lfCells (lfs l (allO l)))[j]?) := fun j hj => hr.cellAt j hj
        have k0 : w2.cell? ⟨w.heap.size, 0, none⟩ = some (.int .i64 a) := ((bcell hb2).1 _ _ hw1).trans c0
        have k1 : w2.cell? ⟨w.heap.size, 1, none⟩ = some (.int .i64 b) := ((bcell hb2).1 _ _ hw1).trans c1
        have hw2 : w.heap.size < w2.heap.size := Nat.lt_of_lt_of_le hw1 hb2.size
        have HB3 := hideIt (Bstep HB1.out hb2)
        clear hb2 c0 c1 hr
        generalize lfs l (allO l) = L at *
        go_wp2
        go_loopw [7, 8] (fun v i wr => ∃ k : Nat, k ≤ L.length ∧ i = .int .i64 k ∧ v = .int .i64 (nShown (L.take k) : Nat) ∧ freeOf (L.take k) a b ∧ Below w2.heap.size w2 wr)
          (fun _ i _ => L.length - (intOf i).toNat)
        case atStart => exact ⟨0, Nat.zero_le _, rfl, rfl, freeOf_nil _ _, Below.refl _ _⟩
        case round =>
          obtain ⟨k, hk, rfl, rfl, hfree, hB⟩ := hrel
          have HB := hideIt (Bstep HB3.out hB)
          have HBW := hideIt hB
          have HF := hideIt hfree
          by_cases hlt : k < L.length
          · obtain ⟨i0, i1, i2, i3⟩ := lfCells_at L k L[k] (by simp [hlt])
            have y0 := ((bcell hB).1 G _ hG).trans ((HC.out (k * 4) (by omega)).trans i0)
            have y1 := ((bcell hB).1 G _ hG).trans ((HC.out (k * 4 + 1) (by omega)).trans i1)
            have y3 := ((bcell hB).1 G _ hG).trans ((HC.out (k * 4 + 3) (by omega)).trans i3)
            have m0 := ((bcell hB).1 _ 0 hw2).trans k0
            have m1 := ((bcell hB).1 _ 1 hw2).trans k1
            have hGr := Nat.lt_of_lt_of_le hG hB.size
            have hwr := Nat.lt_of_lt_of_le hw2 hB.size
            have hsl : nShown (L.take k) ≤ 1048576 := Nat.le_trans (nShown_le _) (Nat.le_trans (List.length_take_le _ _) (by omega))
            have HG : Hid (L[k].z = true → nShown (L.take (k + 1)) = nShown (L.take k)) := fun h => by rw [take_next hlt, nShown_gone h]
            have HT : Hid (L[k].z = false → nShown (L.take (k + 1)) = nShown (L.take k) + 1) := fun h => by rw [take_next hlt, nShown_there h]
            have HY : Hid (L[k].a = a → L[k].b = b → upTo a b L 0 = some (nShown (L.take (k + 1)))) := fun h1 h2 => upTo_here hlt hfree h1 h2
            have HN : Hid (¬ (L[k].a = a ∧ L[k].b = b) → freeOf (L.take (k + 1)) a b) := fun h => by rw [take_next hlt]; exact freeOf_more hfree h
            have hlt' : (k : Int) < (L.length : Int) := by omega
            have hk0 : (0 : Int) ≤ (k : Int) := by omega
            generalize L[k].a = xa at *
            generalize L[k].b = xb at *
            generalize L[k].z = xz at *
            generalize nShown (L.take k) = ns at *
            clear hB hfree i0 i1 i2 i3 k0 k1
            cases xz
            all_goals
              by_cases hab : xa = a ∧ xb = b
              · have HYY := hideIt (HY.out hab.1 hab.2)
                obtain ⟨rfl, rfl⟩ := hab
                first | (have HX := hideIt (HT.out rfl)) | (have HX := hideIt (HG.out rfl))
                clear HT HG HY HN
                go_wp2
                go_quiet (fail)
                go_wp2
                first
                  | exact bodyPost_ret (v := .tuple #[.int .i64 ((ns : Int) + 1), .bool true]) (by simp [results, Tryd.results96, go_sem]) rfl ⟨by rw [HM.out, HYY.out, HX.out]; rfl, below_drewN HB.out _⟩
                  | exact bodyPost_ret (v := .tuple #[.int .i64 (ns : Int), .bool true]) (by simp [results, Tryd.results96, go_sem]) rfl ⟨by rw [HM.out, HYY.out, HX.out]; rfl, below_drewN HB.out _⟩
              · have HNN := hideIt (HN.out hab)
                have hor2 : xa ≠ a ∨ xb ≠ b := by omega
                first | (have HX := hideIt (HT.out rfl)) | (have HX := hideIt (HG.out rfl))
                clear HT HG HY HN hab
                by_cases hxa : xa = a
                · subst hxa
                  have hxb : ¬ xb = b := by omega
                  go_wp2
                  go_quiet (fail)
                  go_wp2
                  exact ⟨⟨k + 1, by omega, by go_num, by rw [HX.out]; try first | rfl | go_num, HNN.out, below_drewN HBW.out _⟩, by simp [intOf]; omega⟩
                · go_wp2
                  go_quiet (fail)
                  go_wp2
                  exact ⟨⟨k + 1, by omega, by go_num, by rw [HX.out]; try first | rfl | go_num, HNN.out, below_drewN HBW.out _⟩, by simp [intOf]; omega⟩
          · obtain rfl : k = L.length := by omega
            have HE : Hid (upTo a b L 0 = none) := by have h := HF.out; rw [List.take_length] at h; exact upTo_free h
            go_wp2
            exact bodyPost_ret (v := .tuple #[.int .i64 0, .bool false]) (by simp [results, Tryd.results96, go_sem]) rfl ⟨by rw [HM.out, HE.out]; rfl, HB.out⟩
end Go.Proofs.YtjgbickelgkljaaDoor

namespace Go.Proofs.YtjgbickelgkljaaDoor
open Go.RowKit Go.Shelf
set_option linter.unusedSimpArgs false
set_option linter.unusedVariables false
attribute [local go_sem ↓] Go.wp_at_zero Go.wp_at_succ

set_option maxRecDepth 100000 in
set_option maxHeartbeats 2000000 in
theorem implPlace_any (l : List Op7) (g cap : Nat) (a b : Int) (x : Addr) (w : World) (hl : OpsAt w g l) (hn : l.length ≤ 1048576) (hcap : l.length ≤ cap)
    (he : w.cell? ⟨0, 0, none⟩ = some (.iface 183 (.pointer (some x)))) (h0 : 0 < w.heap.size) :
    Calls Tryd.prog 52 #[.slice (some ⟨g, 0, none⟩) l.length cap, .agg #[.int .i64 a, .int .i64 b]] w fun e w' => e = .returned (plV (markP l a b)) ∧ Below w.heap.size w w' := by
  have HL := hideIt hl
  have hgw := hl.1
  clear hl
  have HB0 : Hid (Below w.heap.size w (w.alloc (.cells #[.int .i64 a, .int .i64 b] 31))) := (Below.refl _ _).alloc (Nat.le_refl _) _
  have HM0 : Hid ((w.alloc (.cells #[.int .i64 a, .int .i64 b] 31)).heap[w.heap.size]? = some (.cells #[.int .i64 a, .int .i64 b] 31 (0, 0))) := World.alloc_heap_new _ _
  go_enter Tryd.func52, Tryd.ntmps52
  go_wp2_with fail
  generalize w.alloc (.cells #[.int .i64 a, .int .i64 b] 31) = W0 at *
  refine (treeOf_any l g cap x _ (HL.out.below HB0.out hgw) hn hcap (errB HB0.out h0 he) (posB HB0.out h0)).mono ?_
  rintro e w1 ⟨(⟨ht, b1, b2, b3, base, rfl, hT⟩ | ⟨ht, rfl⟩), hb1⟩
  all_goals
    have HO := hideIt ht
    have HB1 := hideIt (Bstep HB0.out hb1)
    have hm1 := blk_below HM0.out hb1
    have herr1 : w1.cell? ⟨0, 0, none⟩ = some (.iface 183 (.pointer (some x))) := errB HB1.out h0 he
    have hp1 : 0 < w1.heap.size := posB HB1.out h0
    have m0 := (blk_cell hm1 0).trans rfl
    have m1 := (blk_cell hm1 1).trans rfl
    have hmw : w.heap.size < w1.heap.size := (Array.getElem?_eq_some_iff.1 hm1).1
    clear ht hb1 hm1
  · have HTT := hideIt hT
    have HE : Hid (markP l a b = placeM l a b) := by show markP l a b = _; unfold markP; rw [HO.out]; rfl
    clear hT
    go_wp2_with (first | (go_at_call 66; refine (is_nil x _).mono ?_; rintro e w'' ⟨rfl, rfl⟩))
    have HB2 : Hid (Below w1.heap.size w1 (w1.alloc (.cells #[.map (some b1), .map (some b2), .map (some b3)] 108))) := (Below.refl _ _).alloc (Nat.le_refl _) _
    refine (callsIn_wide.1 (countUp_in l HO.out hn w1 b1 b2 b3 base HTT.out 3 (Nat.le_refl _) a b x _ HB2.out (errB HB2.out hp1 herr1) (posB HB2.out hp1))).mono ?_
    rintro e w3 ⟨(⟨k, hk, rfl⟩ | ⟨hk, rfl⟩), hb3⟩
    all_goals
      have HB3 := hideIt (Bstep (Bstep HB1.out HB2.out) hb3)
      have HK := hideIt (HE.out.trans hk)
      have herr3 : w3.cell? ⟨0, 0, none⟩ = some (.iface 183 (.pointer (some x))) := errB HB3.out h0 he
      clear hk hb3 m0 m1
    · go_wp2_with (first | (go_at_call 66; refine (is_nil x _).mono ?_; rintro e w'' ⟨rfl, rfl⟩))
      exact bodyPost_ret (v := .tuple #[.int .i64 (k : Nat), .bool true]) (by simp [results, Tryd.results52, go_sem]) rfl ⟨by rw [HK.out]; rfl, HB3.out⟩
    · go_wp2_with (first | (go_at_call 66; refine (is_same x _).mono ?_; rintro e w'' ⟨rfl, rfl⟩))
      exact bodyPost_ret (v := .tuple #[.int .i64 0, .bool false]) (by simp [results, Tryd.results52, go_sem]) rfl ⟨by rw [HK.out]; rfl, HB3.out⟩
  · have HE : Hid (markP l a b = none) := by show markP l a b = _; unfold markP; rw [HO.out]; rfl
    go_wp2_with (first | (go_at_call 66; refine (is_same x _).mono ?_; rintro e w'' ⟨rfl, rfl⟩))
    exact bodyPost_ret (v := .tuple #[.int .i64 0, .bool false]) (by simp [results, Tryd.results52, go_sem]) rfl ⟨by rw [HE.out]; rfl, HB1.out.alloc HB1.out.size _⟩
end Go.Proofs.YtjgbickelgkljaaDoor

namespace Go.Proofs.YtjgbickelgkljaaDoor
open Go.RowKit
set_option linter.unusedSimpArgs false
set_option linter.unusedVariables false
attribute [local go_sem ↓] Go.wp_at_zero Go.wp_at_succ

/-- Whether there is such a place. -/
def atB (l : List Op7) (t : Int) : Bool := opsB l && inB t 0 (shownI (lvs l)).length
/-- The sign ahead of it. -/
def atI (l : List Op7) (t : Int) : Int × Int := if atB l t = true then ((leftOf l t.toNat).1, (leftOf l t.toNat).2.1) else (0, 0)
def atV (l : List Op7) (t : Int) : Value := .tuple #[.agg #[.int .i64 (atI l t).1, .int .i64 (atI l t).2], .bool (atB l t)]
theorem atV_no {l : List Op7} {t : Int} (h : atB l t = false) : atV l t = .tuple #[.agg #[.int .i64 0, .int .i64 0], .bool false] := by unfold atV atI; rw [h]; rfl
theorem atV_yes {l : List Op7} {t : Int} {a b : Int} {k : Nat} (h : atB l t = true) (hl : leftOf l t.toNat = (a, b, k)) : atV l t = .tuple #[.agg #[.int .i64 a, .int .i64 b], .bool true] := by unfold atV atI; rw [h, if_pos rfl, hl]

set_option maxRecDepth 100000 in
set_option maxHeartbeats 1000000 in
theorem specAt_any (l : List Op7) (g cap : Nat) (t : Int) (w : World) (hl : OpsAt w g l) (hn : l.length ≤ 1048576) (hcap : l.length ≤ cap) :
    Calls Tryd.prog 50 #[.slice (some ⟨g, 0, none⟩) l.length cap, .int .i64 t] w fun e w' => e = .returned (atV l t) ∧ Below w.heap.size w w' := by
  have HL := hideIt hl
  have hgw := hl.1
  clear hl
  have HIB := hideIt (IB.start w)
  go_enter Tryd.func50, Tryd.ntmps50
  go_wp2_with fail
  refine (specLeaves_any l _ _ _ (HL.out.below HIB.out.bel hgw) hn hcap).mono ?_
  rintro e w1 ⟨G, c, rfl, hr, hb1⟩
  have hc : (lfs l (standL l)).length ≤ c := by
    rcases hr.2 with ⟨h, _⟩ | ⟨g', c', cur, h, _, _, h2, _⟩
    · cases h
    · cases h; rw [lfs_len]; exact h2
  rw [lfs_cells, ← lfs_len l (standL l)] at hr
  rw [← lfs_len l (standL l)]
  have hln : (lfs l (standL l)).length ≤ 1048576 := by rw [lfs_len]; exact Nat.le_trans (stand_len l) hn
  have HR := hideIt hr
  have HI1 := hideIt (HIB.out.below hb1)
  clear hr hb1 HIB
  go_wp2_with fail
  refine (l3Shown_any (lfs l (standL l)) G c _ _ HR.out hln hc).mono ?_
  rintro e w2 ⟨S, c3, rfl, hr2, hb2⟩
  have HS2 := hideIt hr2
  have HR2 := hideIt (rowKeep HR.out hb2)
  have HI2 := hideIt (HI1.out.below hb2)
  clear hr2 hb2 HI1 HR
  go_wp2_with fail
  refine (specOps_any l _ _ _ (HL.out.below HI2.out.bel hgw) hn hcap).mono ?_
  rintro e w3 ⟨rfl, hb3⟩
  have HS3 := hideIt (rowKeep HS2.out hb3)
  have HR3 := hideIt (rowKeep HR2.out hb3)
  have HI3 := hideIt (HI2.out.below hb3)
  clear hb3 HI2 HR2 HS2
  have hbx := HI3.out.box
  have i0 := (blk_cell hbx 0).trans rfl
  have i1 := (blk_cell hbx 1).trans rfl
  have fi : ∀ j, w3.frozen? ⟨w.heap.size, j, none⟩ = false := fun j => HI3.out.frozen j
  have hwl := HI3.out.lt
  have HB3 := hideIt HI3.out.bel
  clear hbx HI3
  cases ho : opsB l
  all_goals have HO := hideIt ho; clear ho
  · have HN := hideIt (atV_no (l := l) (t := t) (by unfold atB; rw [HO.out]; rfl))
    go_wp2
    exact bodyPost_ret (v := .tuple #[.agg #[.int .i64 0, .int .i64 0], .bool false]) (by simp [results, Tryd.results50, go_sem, i0, i1]) rfl ⟨by rw [HN.out], (HB3.out.setCell (p := ⟨w.heap.size, 0, none⟩) (Nat.le_refl _) _).setCell (p := ⟨w.heap.size, 1, none⟩) (Nat.le_refl _) _⟩
  · have HE : Hid (lfs l (standL l) = lvs l) := by show lfs l (standL l) = lvs l; unfold standL lvs; rw [HO.out]; rfl
    have HLN := hideIt (lvs_len HO.out)
    have hsn : (shownI (lvs l)).length ≤ 36 := Nat.le_trans (shownTo_len _ _) HLN.out
    rw [HE.out] at hc hln
    have HS4 : Hid (w3.ownsRow w1.heap.size 3 1 (.slice (some ⟨S, 0, none⟩) (shownI (lvs l)).length c3) (shownI (lvs l)).length (natCells (shownI (lvs l)))) := by have h := HS3.out; rw [HE.out] at h; exact h
    have HR4 : Hid (w3.ownsRow (w.alloc (.cells #[.int .i64 0, .int .i64 0] 31)).heap.size 72 4 (.slice (some ⟨G, 0, none⟩) (lvs l).length c) (lvs l).length (lfCells (lvs l))) := by have h := HR3.out; rw [HE.out] at h; exact h
    rw [HE.out]
    clear HS3 HR3
    cases hi : inB t 0 (shownI (lvs l)).length
    all_goals have HIN := hideIt hi; clear hi
    · have HN := hideIt (atV_no (l := l) (t := t) (by unfold atB; rw [HO.out, HIN.out]; rfl))
      go_wp2_with (first | (go_at_call 86; refine (l6In_any _ _ _ _).mono ?_; rintro e w' ⟨rfl, hw'⟩; subst hw'; rw [HIN.out]))
      exact bodyPost_ret (v := .tuple #[.agg #[.int .i64 0, .int .i64 0], .bool false]) (by simp [results, Tryd.results50, go_sem, i0, i1]) rfl ⟨by rw [HN.out], (HB3.out.setCell (p := ⟨w.heap.size, 0, none⟩) (Nat.le_refl _) _).setCell (p := ⟨w.heap.size, 1, none⟩) (Nat.le_refl _) _⟩
    · have HAB : Hid (atB l t = true) := by show atB l t = true; unfold atB; rw [HO.out, HIN.out]; rfl
      by_cases ht0 : t = 0
      · subst ht0
        have HN := hideIt (atV_yes (l := l) (t := 0) HAB.out (leftOf_zero l))
        go_wp2_with (first | (go_at_call 86; refine (l6In_any _ _ _ _).mono ?_; rintro e w' ⟨rfl, hw'⟩; subst hw'; rw [HIN.out]))
        exact bodyPost_ret (v := .tuple #[.agg #[.int .i64 0, .int .i64 0], .bool true]) (by simp [results, Tryd.results50, go_sem, i0, i1]) rfl ⟨(congrArg Ending.returned HN.out).symm, (HB3.out.setCell (p := ⟨w.heap.size, 0, none⟩) (Nat.le_refl _) _).setCell (p := ⟨w.heap.size, 1, none⟩) (Nat.le_refl _) _⟩
      · obtain ⟨k, hkt, hk⟩ : ∃ k : Nat, t = (k : Int) + 1 ∧ k + 1 ≤ (shownI (lvs l)).length := by
          have h := HIN.out
          simp [inB] at h
          exact ⟨t.toNat - 1, by omega, by omega⟩
        obtain ⟨j, x, hj, hx, hjl⟩ := shown_leaf (l := l) (k := k) (by omega)
        have HN := hideIt (atV_yes (l := l) (t := t) HAB.out ((congrArg (leftOf l) (show t.toNat = k + 1 by omega)).trans (leftOf_succ hj hx)))
        have hS := (World.ownsRow.cellAt HS4.out k (by omega)).trans (natCells_at hj)
        obtain ⟨q0, q1, _, _⟩ := lfCells_at (lvs l) j x hx
        have z0 := (World.ownsRow.cellAt HR4.out (j * 4) (by omega)).trans q0
        have z1 := (World.ownsRow.cellAt HR4.out (j * 4 + 1) (by omega)).trans q1
        have hSl := (World.ownsRow.lt HS4.out S rfl).2
        have hGl := (World.ownsRow.lt HR4.out G rfl).2
        have hk' : (k : Int) < ((shownI (lvs l)).length : Int) := by omega
        have hj' : (j : Int) < ((lvs l).length : Int) := by omega
        have hj0 : (0 : Int) ≤ (j : Int) := by omega
        have hk0 : (0 : Int) ≤ (k : Int) := by omega
        have hwi : IntKind.i64.wrap (t - 1) = k := by rw [show t - 1 = k by omega]; exact IntWalk.i64_in (k : Int) ⟨by omega, by omega⟩
        generalize x.a = xa at *
        generalize x.b = xb at *
        clear q0 q1 hj hx hkt
        go_wp2_with (first | (go_at_call 86; refine (l6In_any _ _ _ _).mono ?_; rintro e w' ⟨rfl, hw'⟩; subst hw'; rw [HIN.out]))
        exact bodyPost_ret (v := .tuple #[.agg #[.int .i64 xa, .int .i64 xb], .bool true]) (by simp [results, Tryd.results50, go_sem, i0, i1]) rfl ⟨(congrArg Ending.returned HN.out).symm, (HB3.out.setCell (p := ⟨w.heap.size, 0, none⟩) (Nat.le_refl _) _).setCell (p := ⟨w.heap.size, 1, none⟩) (Nat.le_refl _) _⟩
end Go.Proofs.YtjgbickelgkljaaDoor

namespace Go.Proofs.YtjgbickelgkljaaDoor
open Go.RowKit Go.Shelf
set_option linter.unusedSimpArgs false
set_option linter.unusedVariables false
attribute [local go_sem ↓] Go.wp_at_zero Go.wp_at_succ

set_option maxRecDepth 100000 in
set_option maxHeartbeats 2000000 in
theorem implAt_any (l : List Op7) (g cap : Nat) (t : Int) (hwf : wf64 t) (x : Addr) (w : World) (hl : OpsAt w g l) (hn : l.length ≤ 1048576) (hcap : l.length ≤ cap)
    (he : w.cell? ⟨0, 0, none⟩ = some (.iface 183 (.pointer (some x)))) (h0 : 0 < w.heap.size) :
    Calls Tryd.prog 51 #[.slice (some ⟨g, 0, none⟩) l.length cap, .int .i64 t] w fun e w' => e = .returned (atV l t) ∧ Below w.heap.size w w' := by
  have HL := hideIt hl
  have hgw := hl.1
  clear hl
  have HIB := hideIt (IB.start w)
  go_enter Tryd.func51, Tryd.ntmps51
  go_wp2_with fail
  generalize w.alloc (.cells #[.int .i64 0, .int .i64 0] 31) = W0 at *
  refine (treeOf_any l g cap x _ (HL.out.below HIB.out.bel hgw) hn hcap (errB HIB.out.bel h0 he) (posB HIB.out.bel h0)).mono ?_
  rintro e w1 ⟨(⟨ht, b1, b2, b3, base, rfl, hT⟩ | ⟨ht, rfl⟩), hb1⟩
  all_goals
    have HO := hideIt ht
    have HI1 := hideIt (HIB.out.below hb1)
    have herr1 : w1.cell? ⟨0, 0, none⟩ = some (.iface 183 (.pointer (some x))) := errB HI1.out.bel h0 he
    have hp1 : 0 < w1.heap.size := posB HI1.out.bel h0
    have hmw : w.heap.size < w1.heap.size := HI1.out.lt
    have hbx := HI1.out.box
    have i0 := (blk_cell hbx 0).trans rfl
    have i1 := (blk_cell hbx 1).trans rfl
    have fi : ∀ j, w1.frozen? ⟨w.heap.size, j, none⟩ = false := fun j => HI1.out.frozen j
    clear ht hb1 HIB hbx
  · have HTT := hideIt hT
    clear hT
    go_wp2_with (first | (go_at_call 66; refine (is_nil x _).mono ?_; rintro e w'' ⟨rfl, rfl⟩))
    have HB2 : Hid (Below w1.heap.size w1 (w1.alloc (.cells #[.map (some b1), .map (some b2), .map (some b3)] 108))) := (Below.refl _ _).alloc (Nat.le_refl _) _
    refine (signAhead_any l HO.out hn w1 b1 b2 b3 base HTT.out t hwf x _ HB2.out (errB HB2.out hp1 herr1) (posB HB2.out hp1)).mono ?_
    rintro e w3 ⟨(⟨hk, rfl⟩ | ⟨hk, rfl⟩), hb3⟩
    all_goals
      have HI3 := hideIt (HI1.out.below (Bstep HB2.out hb3))
      have HK := hideIt hk
      have herr3 : w3.cell? ⟨0, 0, none⟩ = some (.iface 183 (.pointer (some x))) := errB HI3.out.bel h0 he
      have hw3 : w.heap.size < w3.heap.size := HI3.out.lt
      have hbx := HI3.out.box
      have j0 := (blk_cell hbx 0).trans rfl
      have j1 := (blk_cell hbx 1).trans rfl
      have fj : ∀ j, w3.frozen? ⟨w.heap.size, j, none⟩ = false := fun j => HI3.out.frozen j
      clear hk hb3 hbx i0 i1 fi
    · obtain ⟨la, lb, lk, hlf⟩ : ∃ la lb lk, leftOf l t.toNat = (la, lb, lk) := ⟨_, _, _, rfl⟩
      have HN := hideIt (atV_yes (l := l) (t := t) (by unfold atB; rw [HO.out, HK.out]; rfl) hlf)
      rw [hlf]
      clear hlf
      dsimp only
      go_wp2_with fail
      obtain ⟨Wm, hWm⟩ : ∃ Wm, w3.alloc (.cells #[.int .i64 la, .int .i64 lb] 31) = Wm := ⟨_, rfl⟩
      have hbm : Below w3.heap.size w3 Wm := by rw [← hWm]; exact (Below.refl _ _).alloc (Nat.le_refl _) _
      have hmk : Wm.heap[w3.heap.size]? = some (.cells #[.int .i64 la, .int .i64 lb] 31 (0, 0)) := by rw [← hWm]; exact World.alloc_heap_new _ _
      have HIM := hideIt (HI3.out.below hbm)
      have k0 := (blk_cell HIM.out.box 0).trans rfl
      have k1 := (blk_cell HIM.out.box 1).trans rfl
      have fk : ∀ j, Wm.frozen? ⟨w.heap.size, j, none⟩ = false := fun j => HIM.out.frozen j
      have m0 := (blk_cell hmk 0).trans rfl
      have m1 := (blk_cell hmk 1).trans rfl
      have herrm : Wm.cell? ⟨0, 0, none⟩ = some (.iface 183 (.pointer (some x))) := errB HIM.out.bel h0 he
      rw [hWm]
      clear hWm hbm hmk j0 j1 fj herr3
      generalize w3.heap.size = M at *
      have n1 : ¬ M = w.heap.size := by omega
      have n2 : ¬ w.heap.size = M := by omega
      have n3 : ¬ 0 = w.heap.size := by omega
      have n4 : ¬ w.heap.size = 0 := by omega
      go_region_held3 (fun w' => w'.cell? ⟨M, 0, none⟩ = some (.int .i64 la) ∧ w'.cell? ⟨M, 1, none⟩ = some (.int .i64 lb) ∧ w'.cell? ⟨0, 0, none⟩ = some (.iface 183 (.pointer (some x))))
        (first | exact ⟨m0, m1, herrm⟩ | (simp [go_sem, m0, m1, herrm, n1, n2, n3, n4]))
        (first | (go_at_call 66; refine (is_nil x _).mono ?_; rintro e w'' ⟨rfl, rfl⟩))
      go_wp2
      exact bodyPost_ret (v := .tuple #[.agg #[.int .i64 la, .int .i64 lb], .bool true]) (by simp [results, Tryd.results51, go_sem, k0, k1]) rfl ⟨by rw [HN.out], ((HIM.out.bel.setCell (p := ⟨w.heap.size, 0, none⟩) (Nat.le_refl _) _).setCell (p := ⟨w.heap.size, 1, none⟩) (Nat.le_refl _) _).drew⟩
    · have HN := hideIt (atV_no (l := l) (t := t) (by unfold atB; rw [HO.out, HK.out]; rfl))
      go_wp2_with fail
      obtain ⟨Wm, hWm⟩ : ∃ Wm, w3.alloc (.cells #[.int .i64 0, .int .i64 0] 31) = Wm := ⟨_, rfl⟩
      have hbm : Below w3.heap.size w3 Wm := by rw [← hWm]; exact (Below.refl _ _).alloc (Nat.le_refl _) _
      have hmk : Wm.heap[w3.heap.size]? = some (.cells #[.int .i64 0, .int .i64 0] 31 (0, 0)) := by rw [← hWm]; exact World.alloc_heap_new _ _
      have HIM := hideIt (HI3.out.below hbm)
      have k0 := (blk_cell HIM.out.box 0).trans rfl
      have k1 := (blk_cell HIM.out.box 1).trans rfl
      have fk : ∀ j, Wm.frozen? ⟨w.heap.size, j, none⟩ = false := fun j => HIM.out.frozen j
      have m0 := (blk_cell hmk 0).trans rfl
      have m1 := (blk_cell hmk 1).trans rfl
      have herrm : Wm.cell? ⟨0, 0, none⟩ = some (.iface 183 (.pointer (some x))) := errB HIM.out.bel h0 he
      rw [hWm]
      clear hWm hbm hmk j0 j1 fj herr3
      generalize w3.heap.size = M at *
      have n1 : ¬ M = w.heap.size := by omega
      have n2 : ¬ w.heap.size = M := by omega
      have n3 : ¬ 0 = w.heap.size := by omega
      have n4 : ¬ w.heap.size = 0 := by omega
      go_region_held3 (fun w' => w'.cell? ⟨M, 0, none⟩ = some (.int .i64 0) ∧ w'.cell? ⟨M, 1, none⟩ = some (.int .i64 0) ∧ w'.cell? ⟨0, 0, none⟩ = some (.iface 183 (.pointer (some x))))
        (first | exact ⟨m0, m1, herrm⟩ | (simp [go_sem, m0, m1, herrm, n1, n2, n3, n4]))
        (first | (go_at_call 66; refine (is_same x _).mono ?_; rintro e w'' ⟨rfl, rfl⟩))
      go_wp2
      exact bodyPost_ret (v := .tuple #[.agg #[.int .i64 0, .int .i64 0], .bool false]) (by simp [results, Tryd.results51, go_sem, k0, k1]) rfl ⟨by rw [HN.out], ((HIM.out.bel.setCell (p := ⟨w.heap.size, 0, none⟩) (Nat.le_refl _) _).setCell (p := ⟨w.heap.size, 1, none⟩) (Nat.le_refl _) _).drew⟩
  · have HN := hideIt (atV_no (l := l) (t := t) (by unfold atB; rw [HO.out]; rfl))
    go_wp2_with (first | (go_at_call 66; refine (is_same x _).mono ?_; rintro e w'' ⟨rfl, rfl⟩))
    have hbz := blk_below (set_two (u' := .int .i64 0) (v' := .int .i64 0) HI1.out.box) ((Below.refl _ _).alloc (Nat.le_refl _) (.cells #[.map none, .map none, .map none] 108))
    have v0 := (blk_cell hbz 0).trans rfl
    have v1 := (blk_cell hbz 1).trans rfl
    exact bodyPost_ret (v := .tuple #[.agg #[.int .i64 0, .int .i64 0], .bool false]) (by simp [results, Tryd.results51, go_sem, v0, v1]) rfl ⟨by rw [HN.out], ((HI1.out.bel.setCell (p := ⟨w.heap.size, 0, none⟩) (Nat.le_refl _) _).setCell (p := ⟨w.heap.size, 1, none⟩) (Nat.le_refl _) _).alloc (by simp [World.setCell]; omega) _⟩
end Go.Proofs.YtjgbickelgkljaaDoor
