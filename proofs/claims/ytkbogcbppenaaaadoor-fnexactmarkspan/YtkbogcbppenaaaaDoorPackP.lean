/- The contract of the program's MarkPlace. -/
import Derived.Test.YtkbogcbppenaaaaDoorPackC
import Derived.Test.YtkbogcbppenaaaaDoorPackA
namespace Go.Proofs.YtkbogcbppenaaaaDoor
open Go.RowKit
set_option linter.unusedSimpArgs false
set_option linter.unusedVariables false
attribute [local go_sem ↓] Go.wp_at_zero Go.wp_at_succ

/-- What MarkPlace answers, as a value. -/
def plV (p : Option Nat) : Value := .tuple #[.int .i64 (pN p), .bool (pB p)]
theorem take_next {L : List Lf} {k : Nat} (h : k < L.length) : L.take (k + 1) = L.take k ++ [L[k]] := List.take_succ_eq_append_getElem h
theorem upTo_here {L : List Lf} {k : Nat} {a b : Int} (h : k < L.length) (hf : freeOf (L.take k) a b) (ha : L[k].a = a) (hb : L[k].b = b) : upTo a b L 0 = some (nShown (L.take (k + 1))) := by
  have e : L = L.take k ++ L[k] :: L.drop (k + 1) := by rw [← List.drop_eq_getElem_cons h, List.take_append_drop]
  have h1 := upTo_at (t := L.drop (k + 1)) (n := 0) hf ha hb
  rw [← e] at h1
  rw [h1, take_next h, Nat.zero_add]

set_option maxRecDepth 100000 in
set_option maxHeartbeats 1000000 in
theorem specPlace_any (l : List Op7) (g cap : Nat) (a b : Int) (w : World) (hl : OpsAt w g l) (hn : l.length ≤ 1048576) (hcap : l.length ≤ cap) :
    Calls Tryd.prog 16 #[.slice (some ⟨g, 0, none⟩) l.length cap, .agg #[.int .i64 a, .int .i64 b]] w fun e w' => e = .returned (plV (markP l a b)) ∧ Below w.heap.size w w' := by
  have HL := hideIt hl
  have hgw := hl.1
  clear hl
  cases ho : opsB l
  all_goals
    have HO := hideIt ho
    clear ho
    go_enter Tryd.func16, Tryd.ntmps16
    go_wp2_with fail
    refine (specOps_any l _ _ _ (HL.out.below ((Below.refl _ _).alloc (Nat.le_refl _) _) hgw) hn hcap).mono ?_
    rintro e w1 ⟨rfl, hb1⟩
    rw [HO.out]
    have HB1 : Hid (Below w.heap.size w w1) := ((Below.refl _ _).alloc (Nat.le_refl _) _).trans (hb1.mono (by simp))
    have c0 : w1.cell? ⟨w.heap.size, 0, none⟩ = some (.int .i64 a) := ((bcell hb1).1 _ _ (by simp)).trans (by simp [go_sem])
    have c1 : w1.cell? ⟨w.heap.size, 1, none⟩ = some (.int .i64 b) := ((bcell hb1).1 _ _ (by simp)).trans (by simp [go_sem])
    have hw1 : w.heap.size < w1.heap.size := by have := hb1.size; simp at this; omega
    clear hb1
  · have HM : Hid (markP l a b = none) := by show markP l a b = none; unfold markP; rw [HO.out]; rfl
    go_wp2
    exact bodyPost_ret (v := .tuple #[.int .i64 0, .bool false]) (by simp [results, Tryd.results16, go_sem]) rfl ⟨by rw [HM.out]; rfl, HB1.out⟩
  · by_cases hz : a = 0 ∧ b = 0
    · have HM : Hid (markP l a b = some 0) := by show markP l a b = some 0; unfold markP placeM; rw [HO.out, if_pos hz]; rfl
      obtain ⟨rfl, rfl⟩ := hz
      go_wp2
      exact bodyPost_ret (v := .tuple #[.int .i64 0, .bool true]) (by simp [results, Tryd.results16, go_sem]) rfl ⟨by rw [HM.out]; rfl, HB1.out⟩
    · have HM : Hid (markP l a b = upTo a b (lfs l (allO l)) 0) := by show markP l a b = _; unfold markP placeM; rw [HO.out, if_neg hz]; rfl
      have hor : a ≠ 0 ∨ b ≠ 0 := by omega
      clear hz
      go_wp2_with fail
      all_goals
        refine (l2Leaves_any l HO.out _ _ _ (HL.out.below HB1.out hgw) hn hcap).mono ?_
        rintro e w2 ⟨G, c, rfl, hr, hb2⟩
        rw [lfs_cells, ← lfs_len l (allO l)] at hr
        rw [← lfs_len l (allO l)]
        have hG := (hr.lt G rfl).2
        have hc : (lfs l (allO l)).length ≤ c := by
          rcases hr.2 with ⟨h, _⟩ | ⟨g', c', cur, h, _, _, h2, _⟩
          · cases h
          · cases h; exact h2
        have hln : (lfs l (allO l)).length ≤ 1048576 := by rw [lfs_len]; exact Nat.le_trans (all_len HO.out) hn
        have HC : Hid (∀ j, j < (lfs l (allO l)).length * 4 → w2.cell? ⟨G, j, none⟩ = (lfCells (lfs l (allO l)))[j]?) := fun j hj => hr.cellAt j hj
        have k0 : w2.cell? ⟨w.heap.size, 0, none⟩ = some (.int .i64 a) := ((bcell hb2).1 _ _ hw1).trans c0
        have k1 : w2.cell? ⟨w.heap.size, 1, none⟩ = some (.int .i64 b) := ((bcell hb2).1 _ _ hw1).trans c1
        have hw2 : w.heap.size < w2.heap.size := Nat.lt_of_lt_of_le hw1 hb2.size
        have HB3 := hideIt (Bstep HB1.out hb2)
        clear hb2 c0 c1 hr
        generalize lfs l (allO l) = L at *
        go_wp2
        go_loopw [7, 8] (fun v i wr => ∃ k : Nat, k ≤ L.length ∧ i = .int .i64 k ∧ v = .int .i64 (nShown (L.take k) : Nat) ∧ freeOf (L.take k) a b ∧ Below w2.heap.size w2 wr)
          (fun _ i _ => L.length - (intOf i).toNat)
        case atStart => exact ⟨0, Nat.zero_le _, rfl, rfl, freeOf_nil _ _, Below.refl _ _⟩
        case round =>
          obtain ⟨k, hk, rfl, rfl, hfree, hB⟩ := hrel
          have HB := hideIt (Bstep HB3.out hB)
          have HBW := hideIt hB
          have HF := hideIt hfree
          by_cases hlt : k < L.length
          · obtain ⟨i0, i1, i2, i3⟩ := lfCells_at L k L[k] (by simp [hlt])
            have y0 := ((bcell hB).1 G _ hG).trans ((HC.out (k * 4) (by omega)).trans i0)
            have y1 := ((bcell hB).1 G _ hG).trans ((HC.out (k * 4 + 1) (by omega)).trans i1)
            have y3 := ((bcell hB).1 G _ hG).trans ((HC.out (k * 4 + 3) (by omega)).trans i3)
            have m0 := ((bcell hB).1 _ 0 hw2).trans k0
            have m1 := ((bcell hB).1 _ 1 hw2).trans k1
            have hGr := Nat.lt_of_lt_of_le hG hB.size
            have hwr := Nat.lt_of_lt_of_le hw2 hB.size
            have hsl : nShown (L.take k) ≤ 1048576 := Nat.le_trans (nShown_le _) (Nat.le_trans (List.length_take_le _ _) (by omega))
            have HG : Hid (L[k].z = true → nShown (L.take (k + 1)) = nShown (L.take k)) := fun h => by rw [take_next hlt, nShown_gone h]
            have HT : Hid (L[k].z = false → nShown (L.take (k + 1)) = nShown (L.take k) + 1) := fun h => by rw [take_next hlt, nShown_there h]
            have HY : Hid (L[k].a = a → L[k].b = b → upTo a b L 0 = some (nShown (L.take (k + 1)))) := fun h1 h2 => upTo_here hlt hfree h1 h2
            have HN : Hid (¬ (L[k].a = a ∧ L[k].b = b) → freeOf (L.take (k + 1)) a b) := fun h => by rw [take_next hlt]; exact freeOf_more hfree h
            have hlt' : (k : Int) < (L.length : Int) := by omega
            have hk0 : (0 : Int) ≤ (k : Int) := by omega
            generalize L[k].a = xa at *
            generalize L[k].b = xb at *
            generalize L[k].z = xz at *
            generalize nShown (L.take k) = ns at *
            clear hB hfree i0 i1 i2 i3 k0 k1
            cases xz
            all_goals
              by_cases hab : xa = a ∧ xb = b
              · have HYY := hideIt (HY.out hab.1 hab.2)
                obtain ⟨rfl, rfl⟩ := hab
                first | (have HX := hideIt (HT.out rfl)) | (have HX := hideIt (HG.out rfl))
                clear HT HG HY HN
                go_wp2
                go_quiet (fail)
                go_wp2
                first
                  | exact bodyPost_ret (v := .tuple #[.int .i64 ((ns : Int) + 1), .bool true]) (by simp [results, Tryd.results16, go_sem]) rfl ⟨by rw [HM.out, HYY.out, HX.out]; rfl, below_drewN HB.out _⟩
                  | exact bodyPost_ret (v := .tuple #[.int .i64 (ns : Int), .bool true]) (by simp [results, Tryd.results16, go_sem]) rfl ⟨by rw [HM.out, HYY.out, HX.out]; rfl, below_drewN HB.out _⟩
              · have HNN := hideIt (HN.out hab)
                have hor2 : xa ≠ a ∨ xb ≠ b := by omega
                first | (have HX := hideIt (HT.out rfl)) | (have HX := hideIt (HG.out rfl))
                clear HT HG HY HN hab
                by_cases hxa : xa = a
                · subst hxa
                  have hxb : ¬ xb = b := by omega
                  go_wp2
                  go_quiet (fail)
                  go_wp2
                  exact ⟨⟨k + 1, by omega, by go_num, by rw [HX.out]; try first | rfl | go_num, HNN.out, below_drewN HBW.out _⟩, by simp [intOf]; omega⟩
                · go_wp2
                  go_quiet (fail)
                  go_wp2
                  exact ⟨⟨k + 1, by omega, by go_num, by rw [HX.out]; try first | rfl | go_num, HNN.out, below_drewN HBW.out _⟩, by simp [intOf]; omega⟩
          · obtain rfl : k = L.length := by omega
            have HE : Hid (upTo a b L 0 = none) := by have h := HF.out; rw [List.take_length] at h; exact upTo_free h
            go_wp2
            exact bodyPost_ret (v := .tuple #[.int .i64 0, .bool false]) (by simp [results, Tryd.results16, go_sem]) rfl ⟨by rw [HM.out, HE.out]; rfl, HB.out⟩
end Go.Proofs.YtkbogcbppenaaaaDoor

namespace Go.Proofs.YtkbogcbppenaaaaDoor
open Go.RowKit Go.Shelf
set_option linter.unusedSimpArgs false
set_option linter.unusedVariables false
attribute [local go_sem ↓] Go.wp_at_zero Go.wp_at_succ

set_option maxRecDepth 100000 in
set_option maxHeartbeats 2000000 in
theorem implPlace_any (l : List Op7) (g cap : Nat) (a b : Int) (x : Addr) (w : World) (hl : OpsAt w g l) (hn : l.length ≤ 1048576) (hcap : l.length ≤ cap)
    (he : w.cell? ⟨0, 0, none⟩ = some (.iface 191 (.pointer (some x)))) (h0 : 0 < w.heap.size) :
    Calls Tryd.prog 19 #[.slice (some ⟨g, 0, none⟩) l.length cap, .agg #[.int .i64 a, .int .i64 b]] w fun e w' => e = .returned (plV (markP l a b)) ∧ Below w.heap.size w w' := by
  have HL := hideIt hl
  have hgw := hl.1
  clear hl
  have HB0 : Hid (Below w.heap.size w (w.alloc (.cells #[.int .i64 a, .int .i64 b] 30))) := (Below.refl _ _).alloc (Nat.le_refl _) _
  have HM0 : Hid ((w.alloc (.cells #[.int .i64 a, .int .i64 b] 30)).heap[w.heap.size]? = some (.cells #[.int .i64 a, .int .i64 b] 30 (0, 0))) := World.alloc_heap_new _ _
  go_enter Tryd.func19, Tryd.ntmps19
  go_wp2_with fail
  generalize w.alloc (.cells #[.int .i64 a, .int .i64 b] 30) = W0 at *
  refine (treeOf_any l g cap x _ (HL.out.below HB0.out hgw) hn hcap (errB HB0.out h0 he) (posB HB0.out h0)).mono ?_
  rintro e w1 ⟨(⟨ht, b1, b2, b3, base, rfl, hT⟩ | ⟨ht, rfl⟩), hb1⟩
  all_goals
    have HO := hideIt ht
    have HB1 := hideIt (Bstep HB0.out hb1)
    have hm1 := blk_below HM0.out hb1
    have herr1 : w1.cell? ⟨0, 0, none⟩ = some (.iface 191 (.pointer (some x))) := errB HB1.out h0 he
    have hp1 : 0 < w1.heap.size := posB HB1.out h0
    have m0 := (blk_cell hm1 0).trans rfl
    have m1 := (blk_cell hm1 1).trans rfl
    have hmw : w.heap.size < w1.heap.size := (Array.getElem?_eq_some_iff.1 hm1).1
    clear ht hb1 hm1
  · have HTT := hideIt hT
    have HE : Hid (markP l a b = placeM l a b) := by show markP l a b = _; unfold markP; rw [HO.out]; rfl
    clear hT
    go_wp2_with (first | (go_at_call 59; refine (is_nil x _).mono ?_; rintro e w'' ⟨rfl, rfl⟩))
    have HB2 : Hid (Below w1.heap.size w1 (w1.alloc (.cells #[.map (some b1), .map (some b2), .map (some b3)] 86))) := (Below.refl _ _).alloc (Nat.le_refl _) _
    refine (callsIn_wide.1 (countUp_in l HO.out hn w1 b1 b2 b3 base HTT.out 3 (Nat.le_refl _) a b x _ HB2.out (errB HB2.out hp1 herr1) (posB HB2.out hp1))).mono ?_
    rintro e w3 ⟨(⟨k, hk, rfl⟩ | ⟨hk, rfl⟩), hb3⟩
    all_goals
      have HB3 := hideIt (Bstep (Bstep HB1.out HB2.out) hb3)
      have HK := hideIt (HE.out.trans hk)
      have herr3 : w3.cell? ⟨0, 0, none⟩ = some (.iface 191 (.pointer (some x))) := errB HB3.out h0 he
      clear hk hb3 m0 m1
    · go_wp2_with (first | (go_at_call 59; refine (is_nil x _).mono ?_; rintro e w'' ⟨rfl, rfl⟩))
      exact bodyPost_ret (v := .tuple #[.int .i64 (k : Nat), .bool true]) (by simp [results, Tryd.results19, go_sem]) rfl ⟨by rw [HK.out]; rfl, HB3.out⟩
    · go_wp2_with (first | (go_at_call 59; refine (is_same x _).mono ?_; rintro e w'' ⟨rfl, rfl⟩))
      exact bodyPost_ret (v := .tuple #[.int .i64 0, .bool false]) (by simp [results, Tryd.results19, go_sem]) rfl ⟨by rw [HK.out]; rfl, HB3.out⟩
  · have HE : Hid (markP l a b = none) := by show markP l a b = _; unfold markP; rw [HO.out]; rfl
    go_wp2_with (first | (go_at_call 59; refine (is_same x _).mono ?_; rintro e w'' ⟨rfl, rfl⟩))
    exact bodyPost_ret (v := .tuple #[.int .i64 0, .bool false]) (by simp [results, Tryd.results19, go_sem]) rfl ⟨by rw [HE.out]; rfl, HB1.out.alloc HB1.out.size _⟩
end Go.Proofs.YtkbogcbppenaaaaDoor
