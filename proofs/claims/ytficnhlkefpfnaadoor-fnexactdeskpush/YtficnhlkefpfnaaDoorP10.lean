/- toDesk, with what it makes told as blocks that may be written. -/
import Derived.Test.YtficnhlkefpfnaaDoorP9
import Derived.Test.YtficnhlkefpfnaaDoorP2
import Derived.Test.YtficnhlkefpfnaaDoorP0
namespace Go.Proofs.YtficnhlkefpfnaaDoor
open Go.RowKit
set_option linter.unusedSimpArgs false
set_option linter.unusedVariables false
attribute [local go_sem ↓] Go.wp_at_zero Go.wp_at_succ

/-- What one has so far, at its block. -/
structure SU (w W : World) (G c : Nat) (L : List Op7) : Prop where
  ul : UL w W (.slice (some ⟨G, 0, none⟩) L.length c) L
  cap : L.length ≤ c
theorem SU.below {w W W' : World} {G c : Nat} {L : List Op7} (h : SU w W G c L) (hb : Below W.heap.size W W') : SU w W' G c L := ⟨h.ul.below hb, h.cap⟩
theorem SU.ops {w W : World} {G c : Nat} {L : List Op7} (h : SU w W G c L) : OpsAt W G L := OwnOps.at (cap := c) h.ul.row
theorem has_yes {L : List Op7} {r m : Int} (h : hasI L r m = true) : ∃ j : Nat, findI L r m = j := by
  unfold hasI at h
  exact ⟨(findI L r m).toNat, by have := of_decide_eq_true h; omega⟩
theorem has_no {L : List Op7} {r m : Int} (h : hasI L r m = false) : findI L r m = -1 := by
  unfold hasI at h
  have := of_decide_eq_false h
  exact findI_m1 (by omega)

theorem meas {l n k : Nat} (h : n + 1 ≤ l) (hk : k < l) : (l + 1) * (l - (n + 1)) + l < (l + 1) * (l - n) + (l - k) := by
  obtain ⟨d, rfl⟩ : ∃ d, l = n + 1 + d := ⟨l - (n + 1), by omega⟩
  have e1 : n + 1 + d - (n + 1) = d := by omega
  have e2 : n + 1 + d - n = d + 1 := by omega
  rw [e1, e2, Nat.mul_succ]
  omega
theorem UL.slot {w W : World} {v : Value} {L : List Op7} (h : UL w W v L) (h0 : 0 < L.length) : ∃ g c, v = .slice (some ⟨g, 0, none⟩) L.length c ∧ L.length ≤ c := by
  rcases h.row.2 with ⟨_, h1⟩ | ⟨G, c, cur, e, _, _, h2, _⟩
  · omega
  · exact ⟨G, c, e, h2⟩
set_option maxRecDepth 100000 in
set_option maxHeartbeats 4000000 in
theorem l12Past_any (l : List Op7) (s : List Int) (most : Int) (g cap g2 cap2 : Nat) (hok : l.all okO = true) (w : World) (hl : OpsAt w g l) (hn : l.length ≤ 1048576) (hcap : l.length ≤ cap) (hs : IntsAt w g2 s) (hn2 : s.length ≤ 1048576) (hcap2 : s.length ≤ cap2) :
    Calls Tryd.prog 76 #[.slice (some ⟨g, 0, none⟩) l.length cap, .slice (some ⟨g2, 0, none⟩) s.length cap2, .int .i64 most] w fun e w' => ∃ G c, e = .returned (.slice (some ⟨G, 0, none⟩) (past l s most.toNat).length c) ∧ SU w w' G c (past l s most.toNat) := by
  have HL := hideIt hl
  have HS := hideIt hs
  have HOK := hideIt hok
  have hgw := hl.1
  have hgs := hs.1
  clear hl hs hok
  obtain ⟨i0, hi, hz0', hz1', hz2⟩ := info_parts infoOp
  have HI1 := hideIt hi
  have HZ0 := hideIt hz0'
  have HZ1 := hideIt hz1'
  have HZ2 := hideIt hz2
  clear hi hz0' hz1' hz2
  have HST : Hid (SU w (w.alloc (.cells #[] 71)) w.heap.size 0 []) :=
    ⟨⟨World.ownsRow_made (base := w.heap.size) (e := 71) (size := 7) w #[] 0 (Nat.le_refl _) (Nat.zero_le _) rfl, (Below.refl _ _).alloc (Nat.le_refl _) _⟩, Nat.le_refl _⟩
  go_enter Tryd.func76, Tryd.ntmps76
  go_wp2
  go_loopw [7, 8] (fun v i wr => ∃ (L : List Op7) (k G c : Nat), v = .slice (some ⟨G, 0, none⟩) L.length c ∧ i = .int .i64 k ∧ k ≤ l.length ∧ SU w wr G c L ∧ L = past l s L.length ∧ L.length ≤ most.toNat ∧ ∀ j (hj : j < l.length), j < k → rdy s L l[j] = false)
    (fun v i _ => (l.length + 1) * (l.length - lenV v) + (l.length - (intOf i).toNat))
  case atStart => exact ⟨[], 0, _, _, rfl, rfl, Nat.zero_le _, HST.out, rfl, Nat.zero_le _, fun j _ h => by omega⟩
  case round =>
    obtain ⟨L, k, G, c, rfl, rfl, hk, hu, hpl, hle, hbf⟩ := hrel
    have HU := hideIt hu
    have HPL := hideIt hpl
    have HBF := hideIt hbf
    have hLl : L.length ≤ l.length := by rw [hpl]; exact past_le _ _ _
    clear hu hpl hbf HST
    by_cases hlt : k < l.length
    · have hk' : (k : Int) < (l.length : Int) := by omega
      have hk0 : (0 : Int) ≤ (k : Int) := by omega
      by_cases hmo : (L.length : Int) < most
      · skip
        have hok : okO l[k] = true := all_iff.1 HOK.out k hlt
        obtain ⟨ha1, ha3, hb1, hb12⟩ := okO_id hok
        have hrf := okO_refd hok
        obtain ⟨y0, y1, y2, y3, y4, y5, y6⟩ := (HL.out.below HU.out.ul.bel hgw).2 k l[k] (by simp [hlt])
        have HNO : Hid (rdy s L l[k] = false → ∀ j (hj : j < l.length), j < k + 1 → rdy s L l[j] = false) := fun h j hj hjk => by
          rcases Nat.lt_or_ge j k with h' | h'
          · exact HBF.out j hj h'
          · obtain rfl : j = k := by omega
            exact h
        have HYES : Hid (rdy s L l[k] = true → L ++ [l[k]] = past l s (L ++ [l[k]]).length ∧ L.length + 1 ≤ l.length) := fun h => by
          have hnx : past l s (L.length + 1) = past l s L.length ++ [l[k]] := past_next hlt (by rw [← HPL.out]; exact h) (fun j hj hjk => by rw [← HPL.out]; exact HBF.out j hj hjk)
          have e : L ++ [l[k]] = past l s (L ++ [l[k]]).length := by rw [List.length_append, List.length_singleton, hnx, ← HPL.out]
          refine ⟨e, ?_⟩
          have h := past_le l s (L ++ [l[k]]).length
          rw [← e] at h
          simpa using h
        clear hok HBF
        generalize l[k] = o at *
        have hgr : g < wr.heap.size := Nat.lt_of_lt_of_le hgw HU.out.ul.bel.size
        have HBO : Hid (Below wr.heap.size wr (wr.alloc (.cells #[.int .i64 o.a, .int .i64 o.b, .int .i64 o.k, .int .i64 o.c, .int .i64 o.d, .int .i64 o.s, .int .i64 o.g] 71))) := (Below.refl _ _).alloc (Nat.le_refl _) _
        have HUo := hideIt (HU.out.below HBO.out)
        have HOXo : Hid ((wr.alloc (.cells #[.int .i64 o.a, .int .i64 o.b, .int .i64 o.k, .int .i64 o.c, .int .i64 o.d, .int .i64 o.s, .int .i64 o.g] 71)).heap[wr.heap.size]? = some (.cells #[.int .i64 o.a, .int .i64 o.b, .int .i64 o.k, .int .i64 o.c, .int .i64 o.d, .int .i64 o.s, .int .i64 o.g] 71 (0, 0))) := World.alloc_heap_new _ _
        go_wp2_with fail
        refine (l12Seen_any s g2 cap2 o.a o.b _ (HS.out.below HUo.out.ul.bel hgs) hn2 hcap2 ha1 ha3).mono ?_
        rintro e w0 ⟨rfl, hb⟩
        replace HU := hideIt (HUo.out.below hb)
        have HOX := hideIt (blk_bel HOXo.out hb)
        clear hb HUo HOXo HBO y0 y1 y2 y3 y4 y5 y6 hgr
        cases hS1 : seenB s o.a o.b
        · skip
          have y0 := (blk_cell HOX.out 0).trans rfl
          have y1 := (blk_cell HOX.out 1).trans rfl
          have y2 := (blk_cell HOX.out 2).trans rfl
          have y3 := (blk_cell HOX.out 3).trans rfl
          have y4 := (blk_cell HOX.out 4).trans rfl
          have y5 := (blk_cell HOX.out 5).trans rfl
          have y6 := (blk_cell HOX.out 6).trans rfl
          have yl := (Array.getElem?_eq_some_iff.1 HOX.out).1
          go_wp2_with fail
          refine (l1Find_any L G c o.a o.b _ HU.out.ops (by omega) HU.out.cap).mono ?_
          rintro e w1 ⟨rfl, hb⟩
          replace HU := hideIt (HU.out.below hb)
          replace HOX := hideIt (blk_bel HOX.out hb)
          clear y0 y1 y2 y3 y4 y5 y6 yl
          clear hb
          cases hH1 : hasI L o.a o.b
          · rw [has_no hH1]
            by_cases hz : o.b - 1 = 0
            · skip
              by_cases hr0 : o.c = 0 ∧ o.d = 0
              · obtain ⟨hc0, hd0⟩ := hr0
                obtain ⟨oa, ob, ok, oc, od, os, og⟩ := o
                dsimp only at *
                subst hc0
                subst hd0
                have y0 := (blk_cell HOX.out 0).trans rfl
                have y1 := (blk_cell HOX.out 1).trans rfl
                have y2 := (blk_cell HOX.out 2).trans rfl
                have y3 := (blk_cell HOX.out 3).trans rfl
                have y4 := (blk_cell HOX.out 4).trans rfl
                have y5 := (blk_cell HOX.out 5).trans rfl
                have y6 := (blk_cell HOX.out 6).trans rfl
                have yl := (Array.getElem?_eq_some_iff.1 HOX.out).1
                have HBA : Hid (Below w1.heap.size w1 (w1.alloc (.cells #[.int .i64 oa, .int .i64 0] 69))) := (Below.refl _ _).alloc (Nat.le_refl _) _
                have HUp := hideIt (HU.out.below HBA.out)
                have HOXp := hideIt (blk_bel HOX.out HBA.out)
                have HAXp : Hid ((w1.alloc (.cells #[.int .i64 oa, .int .i64 0] 69)).heap[w1.heap.size]? = some (.cells #[.int .i64 oa, .int .i64 0] 69 (0, 0))) := World.alloc_heap_new _ _
                obtain ⟨HE, hll2⟩ := HYES.out (by unfold rdy; (try dsimp only); rw [hS1, hH1]; rw [decide_eq_true hz]; simp)
                have hms := meas (l := l.length) (n := L.length) (k := k) hll2 hlt
                go_wp2_with (first
                  | (at_builtin; refine wpList_append_own_at _ rfl _ _ 24 rfl w.heap.size 71 i0 _ 7 56 Tryd.underlying24 HI1.out HZ0.out HZ1.out HZ2.out rfl (by decide) _ _ _ rfl (HUp.out.ul.row.alloc _) ⟨w1.heap.size + 1, 0, none⟩ 1 1 (opCells [⟨oa, ob, ok, 0, 0, os, og⟩]) rfl rfl (cellsNew' _ _ (by simp) (opCells [⟨oa, ob, ok, 0, 0, os, og⟩]) 71) (opCells_one _) (by unfold maxLen; omega) (by omega) (by have := HUp.out.ul.bel.size; simp at this ⊢; omega) ?_; intro v' w9 hown3 hg3 _ _;
                      have HS3 := hideIt (UL.app (M := [⟨oa, ob, ok, 0, 0, os, og⟩]) (HUp.out.ul.below ((Below.refl _ _).alloc (Nat.le_refl _) _)) hg3 hown3); clear hown3 hg3))
                obtain ⟨g9, c9, rfl, hc9⟩ := HS3.out.slot (by simp)
                exact ⟨⟨L ++ [⟨oa, ob, ok, 0, 0, os, og⟩], 0, g9, c9, rfl, by go_num, by omega, ⟨HS3.out, hc9⟩, HE, by rw [List.length_append]; simp; omega, fun j _ h => by omega⟩, by simpa [lenV, intOf] using hms⟩
              · have hcr : 1 ≤ o.c ∧ o.c ≤ 3 := by rcases hrf with h | h <;> omega
                have hc0 : ¬ o.c = 0 := by omega
                clear hr0
                have y0 := (blk_cell HOX.out 0).trans rfl
                have y1 := (blk_cell HOX.out 1).trans rfl
                have y2 := (blk_cell HOX.out 2).trans rfl
                have y3 := (blk_cell HOX.out 3).trans rfl
                have y4 := (blk_cell HOX.out 4).trans rfl
                have y5 := (blk_cell HOX.out 5).trans rfl
                have y6 := (blk_cell HOX.out 6).trans rfl
                have yl := (Array.getElem?_eq_some_iff.1 HOX.out).1
                have HBA : Hid (Below w1.heap.size w1 (w1.alloc (.cells #[.int .i64 o.a, .int .i64 0] 69))) := (Below.refl _ _).alloc (Nat.le_refl _) _
                have HUp := hideIt (HU.out.below HBA.out)
                have HOXp := hideIt (blk_bel HOX.out HBA.out)
                have HAXp : Hid ((w1.alloc (.cells #[.int .i64 o.a, .int .i64 0] 69)).heap[w1.heap.size]? = some (.cells #[.int .i64 o.a, .int .i64 0] 69 (0, 0))) := World.alloc_heap_new _ _
                go_wp2_with fail
                refine (l12Seen_any s g2 cap2 o.c o.d _ (HS.out.below HUp.out.ul.bel hgs) hn2 hcap2 hcr.1 hcr.2).mono ?_
                rintro e w2 ⟨rfl, hb⟩
                replace HU := hideIt (HUp.out.below hb)
                replace HOX := hideIt (blk_bel HOXp.out hb)
                have HAX := hideIt (blk_bel HAXp.out hb)
                clear HUp HOXp HAXp HBA
                clear y0 y1 y2 y3 y4 y5 y6 yl
                clear hb
                cases hS3 : seenB s o.c o.d
                · skip
                  have y0 := (blk_cell HOX.out 0).trans rfl
                  have y1 := (blk_cell HOX.out 1).trans rfl
                  have y2 := (blk_cell HOX.out 2).trans rfl
                  have y3 := (blk_cell HOX.out 3).trans rfl
                  have y4 := (blk_cell HOX.out 4).trans rfl
                  have y5 := (blk_cell HOX.out 5).trans rfl
                  have y6 := (blk_cell HOX.out 6).trans rfl
                  have yl := (Array.getElem?_eq_some_iff.1 HOX.out).1
                  have t0 := (blk_cell HAX.out 0).trans rfl
                  have t1 := (blk_cell HAX.out 1).trans rfl
                  have tl := (Array.getElem?_eq_some_iff.1 HAX.out).1
                  go_wp2_with fail
                  refine (l1Find_any L G c o.c o.d _ HU.out.ops (by omega) HU.out.cap).mono ?_
                  rintro e w3 ⟨rfl, hb⟩
                  replace HU := hideIt (HU.out.below hb)
                  replace HOX := hideIt (blk_bel HOX.out hb)
                  replace HAX := hideIt (blk_bel HAX.out hb)
                  clear y0 y1 y2 y3 y4 y5 y6 yl
                  clear t0 t1 tl
                  clear hb
                  cases hH3 : hasI L o.c o.d
                  · rw [has_no hH3]
                    have y0 := (blk_cell HOX.out 0).trans rfl
                    have y1 := (blk_cell HOX.out 1).trans rfl
                    have y2 := (blk_cell HOX.out 2).trans rfl
                    have y3 := (blk_cell HOX.out 3).trans rfl
                    have y4 := (blk_cell HOX.out 4).trans rfl
                    have y5 := (blk_cell HOX.out 5).trans rfl
                    have y6 := (blk_cell HOX.out 6).trans rfl
                    have yl := (Array.getElem?_eq_some_iff.1 HOX.out).1
                    have t0 := (blk_cell HAX.out 0).trans rfl
                    have t1 := (blk_cell HAX.out 1).trans rfl
                    have tl := (Array.getElem?_eq_some_iff.1 HAX.out).1
                    have HE := hideIt (HNO.out (by unfold rdy; (try dsimp only); rw [hS1, hH1]; rw [decide_eq_true hz]; rw [hS3, hH3]; simp [hc0]))
                    go_wp2
                    exact ⟨⟨L, k + 1, G, c, rfl, by go_num, by omega, HU.out, HPL.out, hle, HE.out⟩, by simp [lenV, intOf]; omega⟩
                  · obtain ⟨j3, hj3⟩ := has_yes hH3
                    rw [hj3]
                    clear hj3
                    have hj30 : (0 : Int) ≤ (j3 : Int) := by omega
                    have y0 := (blk_cell HOX.out 0).trans rfl
                    have y1 := (blk_cell HOX.out 1).trans rfl
                    have y2 := (blk_cell HOX.out 2).trans rfl
                    have y3 := (blk_cell HOX.out 3).trans rfl
                    have y4 := (blk_cell HOX.out 4).trans rfl
                    have y5 := (blk_cell HOX.out 5).trans rfl
                    have y6 := (blk_cell HOX.out 6).trans rfl
                    have yl := (Array.getElem?_eq_some_iff.1 HOX.out).1
                    have t0 := (blk_cell HAX.out 0).trans rfl
                    have t1 := (blk_cell HAX.out 1).trans rfl
                    have tl := (Array.getElem?_eq_some_iff.1 HAX.out).1
                    obtain ⟨HE, hll2⟩ := HYES.out (by unfold rdy; (try dsimp only); rw [hS1, hH1]; rw [decide_eq_true hz]; rw [hS3, hH3]; simp)
                    have hms := meas (l := l.length) (n := L.length) (k := k) hll2 hlt
                    go_wp2_with (first
                      | (at_builtin; refine wpList_append_own_at _ rfl _ _ 24 rfl w.heap.size 71 i0 _ 7 56 Tryd.underlying24 HI1.out HZ0.out HZ1.out HZ2.out rfl (by decide) _ _ _ rfl (HU.out.ul.row.alloc _) ⟨w3.heap.size, 0, none⟩ 1 1 (opCells [o]) rfl rfl (cellsNew' _ _ (by simp) (opCells [o]) 71) (opCells_one _) (by unfold maxLen; omega) (by omega) (by have := HU.out.ul.bel.size; simp at this ⊢; omega) ?_; intro v' w9 hown3 hg3 _ _;
                          have HS3 := hideIt (UL.app (M := [o]) (HU.out.ul.below ((Below.refl _ _).alloc (Nat.le_refl _) _)) hg3 hown3); clear hown3 hg3))
                    obtain ⟨g9, c9, rfl, hc9⟩ := HS3.out.slot (by simp)
                    exact ⟨⟨L ++ [o], 0, g9, c9, rfl, by go_num, by omega, ⟨HS3.out, hc9⟩, HE, by rw [List.length_append]; simp; omega, fun j _ h => by omega⟩, by simpa [lenV, intOf] using hms⟩
                · skip
                  have y0 := (blk_cell HOX.out 0).trans rfl
                  have y1 := (blk_cell HOX.out 1).trans rfl
                  have y2 := (blk_cell HOX.out 2).trans rfl
                  have y3 := (blk_cell HOX.out 3).trans rfl
                  have y4 := (blk_cell HOX.out 4).trans rfl
                  have y5 := (blk_cell HOX.out 5).trans rfl
                  have y6 := (blk_cell HOX.out 6).trans rfl
                  have yl := (Array.getElem?_eq_some_iff.1 HOX.out).1
                  have t0 := (blk_cell HAX.out 0).trans rfl
                  have t1 := (blk_cell HAX.out 1).trans rfl
                  have tl := (Array.getElem?_eq_some_iff.1 HAX.out).1
                  obtain ⟨HE, hll2⟩ := HYES.out (by unfold rdy; (try dsimp only); rw [hS1, hH1]; rw [decide_eq_true hz]; rw [hS3]; simp)
                  have hms := meas (l := l.length) (n := L.length) (k := k) hll2 hlt
                  go_wp2_with (first
                    | (at_builtin; refine wpList_append_own_at _ rfl _ _ 24 rfl w.heap.size 71 i0 _ 7 56 Tryd.underlying24 HI1.out HZ0.out HZ1.out HZ2.out rfl (by decide) _ _ _ rfl (HU.out.ul.row.alloc _) ⟨w2.heap.size, 0, none⟩ 1 1 (opCells [o]) rfl rfl (cellsNew' _ _ (by simp) (opCells [o]) 71) (opCells_one _) (by unfold maxLen; omega) (by omega) (by have := HU.out.ul.bel.size; simp at this ⊢; omega) ?_; intro v' w9 hown3 hg3 _ _;
                        have HS3 := hideIt (UL.app (M := [o]) (HU.out.ul.below ((Below.refl _ _).alloc (Nat.le_refl _) _)) hg3 hown3); clear hown3 hg3))
                  obtain ⟨g9, c9, rfl, hc9⟩ := HS3.out.slot (by simp)
                  exact ⟨⟨L ++ [o], 0, g9, c9, rfl, by go_num, by omega, ⟨HS3.out, hc9⟩, HE, by rw [List.length_append]; simp; omega, fun j _ h => by omega⟩, by simpa [lenV, intOf] using hms⟩
            · skip
              have y0 := (blk_cell HOX.out 0).trans rfl
              have y1 := (blk_cell HOX.out 1).trans rfl
              have y2 := (blk_cell HOX.out 2).trans rfl
              have y3 := (blk_cell HOX.out 3).trans rfl
              have y4 := (blk_cell HOX.out 4).trans rfl
              have y5 := (blk_cell HOX.out 5).trans rfl
              have y6 := (blk_cell HOX.out 6).trans rfl
              have yl := (Array.getElem?_eq_some_iff.1 HOX.out).1
              have HBA : Hid (Below w1.heap.size w1 (w1.alloc (.cells #[.int .i64 o.a, .int .i64 (o.b - 1)] 69))) := (Below.refl _ _).alloc (Nat.le_refl _) _
              have HUp := hideIt (HU.out.below HBA.out)
              have HOXp := hideIt (blk_bel HOX.out HBA.out)
              have HAXp : Hid ((w1.alloc (.cells #[.int .i64 o.a, .int .i64 (o.b - 1)] 69)).heap[w1.heap.size]? = some (.cells #[.int .i64 o.a, .int .i64 (o.b - 1)] 69 (0, 0))) := World.alloc_heap_new _ _
              go_wp2_with fail
              refine (l12Seen_any s g2 cap2 o.a (o.b - 1) _ (HS.out.below HUp.out.ul.bel hgs) hn2 hcap2 ha1 ha3).mono ?_
              rintro e w4 ⟨rfl, hb⟩
              replace HU := hideIt (HUp.out.below hb)
              replace HOX := hideIt (blk_bel HOXp.out hb)
              have HAX := hideIt (blk_bel HAXp.out hb)
              clear HUp HOXp HAXp HBA
              clear y0 y1 y2 y3 y4 y5 y6 yl
              clear hb
              cases hS2 : seenB s o.a (o.b - 1)
              · skip
                have y0 := (blk_cell HOX.out 0).trans rfl
                have y1 := (blk_cell HOX.out 1).trans rfl
                have y2 := (blk_cell HOX.out 2).trans rfl
                have y3 := (blk_cell HOX.out 3).trans rfl
                have y4 := (blk_cell HOX.out 4).trans rfl
                have y5 := (blk_cell HOX.out 5).trans rfl
                have y6 := (blk_cell HOX.out 6).trans rfl
                have yl := (Array.getElem?_eq_some_iff.1 HOX.out).1
                have t0 := (blk_cell HAX.out 0).trans rfl
                have t1 := (blk_cell HAX.out 1).trans rfl
                have tl := (Array.getElem?_eq_some_iff.1 HAX.out).1
                go_wp2_with fail
                refine (l1Find_any L G c o.a (o.b - 1) _ HU.out.ops (by omega) HU.out.cap).mono ?_
                rintro e w5 ⟨rfl, hb⟩
                replace HU := hideIt (HU.out.below hb)
                replace HOX := hideIt (blk_bel HOX.out hb)
                replace HAX := hideIt (blk_bel HAX.out hb)
                clear y0 y1 y2 y3 y4 y5 y6 yl
                clear t0 t1 tl
                clear hb
                cases hH2 : hasI L o.a (o.b - 1)
                · rw [has_no hH2]
                  have y0 := (blk_cell HOX.out 0).trans rfl
                  have y1 := (blk_cell HOX.out 1).trans rfl
                  have y2 := (blk_cell HOX.out 2).trans rfl
                  have y3 := (blk_cell HOX.out 3).trans rfl
                  have y4 := (blk_cell HOX.out 4).trans rfl
                  have y5 := (blk_cell HOX.out 5).trans rfl
                  have y6 := (blk_cell HOX.out 6).trans rfl
                  have yl := (Array.getElem?_eq_some_iff.1 HOX.out).1
                  have t0 := (blk_cell HAX.out 0).trans rfl
                  have t1 := (blk_cell HAX.out 1).trans rfl
                  have tl := (Array.getElem?_eq_some_iff.1 HAX.out).1
                  have HE := hideIt (HNO.out (by unfold rdy; (try dsimp only); rw [hS1, hH1]; rw [decide_eq_false hz, hS2, hH2]; simp))
                  go_wp2
                  exact ⟨⟨L, k + 1, G, c, rfl, by go_num, by omega, HU.out, HPL.out, hle, HE.out⟩, by simp [lenV, intOf]; omega⟩
                · obtain ⟨j2, hj2⟩ := has_yes hH2
                  rw [hj2]
                  clear hj2
                  have hj20 : (0 : Int) ≤ (j2 : Int) := by omega
                  by_cases hr0 : o.c = 0 ∧ o.d = 0
                  · obtain ⟨hc0, hd0⟩ := hr0
                    obtain ⟨oa, ob, ok, oc, od, os, og⟩ := o
                    dsimp only at *
                    subst hc0
                    subst hd0
                    have y0 := (blk_cell HOX.out 0).trans rfl
                    have y1 := (blk_cell HOX.out 1).trans rfl
                    have y2 := (blk_cell HOX.out 2).trans rfl
                    have y3 := (blk_cell HOX.out 3).trans rfl
                    have y4 := (blk_cell HOX.out 4).trans rfl
                    have y5 := (blk_cell HOX.out 5).trans rfl
                    have y6 := (blk_cell HOX.out 6).trans rfl
                    have yl := (Array.getElem?_eq_some_iff.1 HOX.out).1
                    have t0 := (blk_cell HAX.out 0).trans rfl
                    have t1 := (blk_cell HAX.out 1).trans rfl
                    have tl := (Array.getElem?_eq_some_iff.1 HAX.out).1
                    obtain ⟨HE, hll2⟩ := HYES.out (by unfold rdy; (try dsimp only); rw [hS1, hH1]; rw [decide_eq_false hz, hS2, hH2]; simp)
                    have hms := meas (l := l.length) (n := L.length) (k := k) hll2 hlt
                    go_wp2_with (first
                      | (at_builtin; refine wpList_append_own_at _ rfl _ _ 24 rfl w.heap.size 71 i0 _ 7 56 Tryd.underlying24 HI1.out HZ0.out HZ1.out HZ2.out rfl (by decide) _ _ _ rfl (HU.out.ul.row.alloc _) ⟨w5.heap.size, 0, none⟩ 1 1 (opCells [⟨oa, ob, ok, 0, 0, os, og⟩]) rfl rfl (cellsNew' _ _ (by simp) (opCells [⟨oa, ob, ok, 0, 0, os, og⟩]) 71) (opCells_one _) (by unfold maxLen; omega) (by omega) (by have := HU.out.ul.bel.size; simp at this ⊢; omega) ?_; intro v' w9 hown3 hg3 _ _;
                          have HS3 := hideIt (UL.app (M := [⟨oa, ob, ok, 0, 0, os, og⟩]) (HU.out.ul.below ((Below.refl _ _).alloc (Nat.le_refl _) _)) hg3 hown3); clear hown3 hg3))
                    obtain ⟨g9, c9, rfl, hc9⟩ := HS3.out.slot (by simp)
                    exact ⟨⟨L ++ [⟨oa, ob, ok, 0, 0, os, og⟩], 0, g9, c9, rfl, by go_num, by omega, ⟨HS3.out, hc9⟩, HE, by rw [List.length_append]; simp; omega, fun j _ h => by omega⟩, by simpa [lenV, intOf] using hms⟩
                  · have hcr : 1 ≤ o.c ∧ o.c ≤ 3 := by rcases hrf with h | h <;> omega
                    have hc0 : ¬ o.c = 0 := by omega
                    clear hr0
                    have y0 := (blk_cell HOX.out 0).trans rfl
                    have y1 := (blk_cell HOX.out 1).trans rfl
                    have y2 := (blk_cell HOX.out 2).trans rfl
                    have y3 := (blk_cell HOX.out 3).trans rfl
                    have y4 := (blk_cell HOX.out 4).trans rfl
                    have y5 := (blk_cell HOX.out 5).trans rfl
                    have y6 := (blk_cell HOX.out 6).trans rfl
                    have yl := (Array.getElem?_eq_some_iff.1 HOX.out).1
                    have t0 := (blk_cell HAX.out 0).trans rfl
                    have t1 := (blk_cell HAX.out 1).trans rfl
                    have tl := (Array.getElem?_eq_some_iff.1 HAX.out).1
                    go_wp2_with fail
                    refine (l12Seen_any s g2 cap2 o.c o.d _ (HS.out.below HU.out.ul.bel hgs) hn2 hcap2 hcr.1 hcr.2).mono ?_
                    rintro e w6 ⟨rfl, hb⟩
                    replace HU := hideIt (HU.out.below hb)
                    replace HOX := hideIt (blk_bel HOX.out hb)
                    replace HAX := hideIt (blk_bel HAX.out hb)
                    clear y0 y1 y2 y3 y4 y5 y6 yl
                    clear t0 t1 tl
                    clear hb
                    cases hS3 : seenB s o.c o.d
                    · skip
                      have y0 := (blk_cell HOX.out 0).trans rfl
                      have y1 := (blk_cell HOX.out 1).trans rfl
                      have y2 := (blk_cell HOX.out 2).trans rfl
                      have y3 := (blk_cell HOX.out 3).trans rfl
                      have y4 := (blk_cell HOX.out 4).trans rfl
                      have y5 := (blk_cell HOX.out 5).trans rfl
                      have y6 := (blk_cell HOX.out 6).trans rfl
                      have yl := (Array.getElem?_eq_some_iff.1 HOX.out).1
                      have t0 := (blk_cell HAX.out 0).trans rfl
                      have t1 := (blk_cell HAX.out 1).trans rfl
                      have tl := (Array.getElem?_eq_some_iff.1 HAX.out).1
                      go_wp2_with fail
                      refine (l1Find_any L G c o.c o.d _ HU.out.ops (by omega) HU.out.cap).mono ?_
                      rintro e w7 ⟨rfl, hb⟩
                      replace HU := hideIt (HU.out.below hb)
                      replace HOX := hideIt (blk_bel HOX.out hb)
                      replace HAX := hideIt (blk_bel HAX.out hb)
                      clear y0 y1 y2 y3 y4 y5 y6 yl
                      clear t0 t1 tl
                      clear hb
                      cases hH3 : hasI L o.c o.d
                      · rw [has_no hH3]
                        have y0 := (blk_cell HOX.out 0).trans rfl
                        have y1 := (blk_cell HOX.out 1).trans rfl
                        have y2 := (blk_cell HOX.out 2).trans rfl
                        have y3 := (blk_cell HOX.out 3).trans rfl
                        have y4 := (blk_cell HOX.out 4).trans rfl
                        have y5 := (blk_cell HOX.out 5).trans rfl
                        have y6 := (blk_cell HOX.out 6).trans rfl
                        have yl := (Array.getElem?_eq_some_iff.1 HOX.out).1
                        have t0 := (blk_cell HAX.out 0).trans rfl
                        have t1 := (blk_cell HAX.out 1).trans rfl
                        have tl := (Array.getElem?_eq_some_iff.1 HAX.out).1
                        have HE := hideIt (HNO.out (by unfold rdy; (try dsimp only); rw [hS1, hH1]; rw [decide_eq_false hz, hS2, hH2]; rw [hS3, hH3]; simp [hc0]))
                        go_wp2
                        exact ⟨⟨L, k + 1, G, c, rfl, by go_num, by omega, HU.out, HPL.out, hle, HE.out⟩, by simp [lenV, intOf]; omega⟩
                      · obtain ⟨j3, hj3⟩ := has_yes hH3
                        rw [hj3]
                        clear hj3
                        have hj30 : (0 : Int) ≤ (j3 : Int) := by omega
                        have y0 := (blk_cell HOX.out 0).trans rfl
                        have y1 := (blk_cell HOX.out 1).trans rfl
                        have y2 := (blk_cell HOX.out 2).trans rfl
                        have y3 := (blk_cell HOX.out 3).trans rfl
                        have y4 := (blk_cell HOX.out 4).trans rfl
                        have y5 := (blk_cell HOX.out 5).trans rfl
                        have y6 := (blk_cell HOX.out 6).trans rfl
                        have yl := (Array.getElem?_eq_some_iff.1 HOX.out).1
                        have t0 := (blk_cell HAX.out 0).trans rfl
                        have t1 := (blk_cell HAX.out 1).trans rfl
                        have tl := (Array.getElem?_eq_some_iff.1 HAX.out).1
                        obtain ⟨HE, hll2⟩ := HYES.out (by unfold rdy; (try dsimp only); rw [hS1, hH1]; rw [decide_eq_false hz, hS2, hH2]; rw [hS3, hH3]; simp)
                        have hms := meas (l := l.length) (n := L.length) (k := k) hll2 hlt
                        go_wp2_with (first
                          | (at_builtin; refine wpList_append_own_at _ rfl _ _ 24 rfl w.heap.size 71 i0 _ 7 56 Tryd.underlying24 HI1.out HZ0.out HZ1.out HZ2.out rfl (by decide) _ _ _ rfl (HU.out.ul.row.alloc _) ⟨w7.heap.size, 0, none⟩ 1 1 (opCells [o]) rfl rfl (cellsNew' _ _ (by simp) (opCells [o]) 71) (opCells_one _) (by unfold maxLen; omega) (by omega) (by have := HU.out.ul.bel.size; simp at this ⊢; omega) ?_; intro v' w9 hown3 hg3 _ _;
                              have HS3 := hideIt (UL.app (M := [o]) (HU.out.ul.below ((Below.refl _ _).alloc (Nat.le_refl _) _)) hg3 hown3); clear hown3 hg3))
                        obtain ⟨g9, c9, rfl, hc9⟩ := HS3.out.slot (by simp)
                        exact ⟨⟨L ++ [o], 0, g9, c9, rfl, by go_num, by omega, ⟨HS3.out, hc9⟩, HE, by rw [List.length_append]; simp; omega, fun j _ h => by omega⟩, by simpa [lenV, intOf] using hms⟩
                    · skip
                      have y0 := (blk_cell HOX.out 0).trans rfl
                      have y1 := (blk_cell HOX.out 1).trans rfl
                      have y2 := (blk_cell HOX.out 2).trans rfl
                      have y3 := (blk_cell HOX.out 3).trans rfl
                      have y4 := (blk_cell HOX.out 4).trans rfl
                      have y5 := (blk_cell HOX.out 5).trans rfl
                      have y6 := (blk_cell HOX.out 6).trans rfl
                      have yl := (Array.getElem?_eq_some_iff.1 HOX.out).1
                      have t0 := (blk_cell HAX.out 0).trans rfl
                      have t1 := (blk_cell HAX.out 1).trans rfl
                      have tl := (Array.getElem?_eq_some_iff.1 HAX.out).1
                      obtain ⟨HE, hll2⟩ := HYES.out (by unfold rdy; (try dsimp only); rw [hS1, hH1]; rw [decide_eq_false hz, hS2, hH2]; rw [hS3]; simp)
                      have hms := meas (l := l.length) (n := L.length) (k := k) hll2 hlt
                      go_wp2_with (first
                        | (at_builtin; refine wpList_append_own_at _ rfl _ _ 24 rfl w.heap.size 71 i0 _ 7 56 Tryd.underlying24 HI1.out HZ0.out HZ1.out HZ2.out rfl (by decide) _ _ _ rfl (HU.out.ul.row.alloc _) ⟨w6.heap.size, 0, none⟩ 1 1 (opCells [o]) rfl rfl (cellsNew' _ _ (by simp) (opCells [o]) 71) (opCells_one _) (by unfold maxLen; omega) (by omega) (by have := HU.out.ul.bel.size; simp at this ⊢; omega) ?_; intro v' w9 hown3 hg3 _ _;
                            have HS3 := hideIt (UL.app (M := [o]) (HU.out.ul.below ((Below.refl _ _).alloc (Nat.le_refl _) _)) hg3 hown3); clear hown3 hg3))
                      obtain ⟨g9, c9, rfl, hc9⟩ := HS3.out.slot (by simp)
                      exact ⟨⟨L ++ [o], 0, g9, c9, rfl, by go_num, by omega, ⟨HS3.out, hc9⟩, HE, by rw [List.length_append]; simp; omega, fun j _ h => by omega⟩, by simpa [lenV, intOf] using hms⟩
              · skip
                by_cases hr0 : o.c = 0 ∧ o.d = 0
                · obtain ⟨hc0, hd0⟩ := hr0
                  obtain ⟨oa, ob, ok, oc, od, os, og⟩ := o
                  dsimp only at *
                  subst hc0
                  subst hd0
                  have y0 := (blk_cell HOX.out 0).trans rfl
                  have y1 := (blk_cell HOX.out 1).trans rfl
                  have y2 := (blk_cell HOX.out 2).trans rfl
                  have y3 := (blk_cell HOX.out 3).trans rfl
                  have y4 := (blk_cell HOX.out 4).trans rfl
                  have y5 := (blk_cell HOX.out 5).trans rfl
                  have y6 := (blk_cell HOX.out 6).trans rfl
                  have yl := (Array.getElem?_eq_some_iff.1 HOX.out).1
                  have t0 := (blk_cell HAX.out 0).trans rfl
                  have t1 := (blk_cell HAX.out 1).trans rfl
                  have tl := (Array.getElem?_eq_some_iff.1 HAX.out).1
                  obtain ⟨HE, hll2⟩ := HYES.out (by unfold rdy; (try dsimp only); rw [hS1, hH1]; rw [decide_eq_false hz, hS2]; simp)
                  have hms := meas (l := l.length) (n := L.length) (k := k) hll2 hlt
                  go_wp2_with (first
                    | (at_builtin; refine wpList_append_own_at _ rfl _ _ 24 rfl w.heap.size 71 i0 _ 7 56 Tryd.underlying24 HI1.out HZ0.out HZ1.out HZ2.out rfl (by decide) _ _ _ rfl (HU.out.ul.row.alloc _) ⟨w4.heap.size, 0, none⟩ 1 1 (opCells [⟨oa, ob, ok, 0, 0, os, og⟩]) rfl rfl (cellsNew' _ _ (by simp) (opCells [⟨oa, ob, ok, 0, 0, os, og⟩]) 71) (opCells_one _) (by unfold maxLen; omega) (by omega) (by have := HU.out.ul.bel.size; simp at this ⊢; omega) ?_; intro v' w9 hown3 hg3 _ _;
                        have HS3 := hideIt (UL.app (M := [⟨oa, ob, ok, 0, 0, os, og⟩]) (HU.out.ul.below ((Below.refl _ _).alloc (Nat.le_refl _) _)) hg3 hown3); clear hown3 hg3))
                  obtain ⟨g9, c9, rfl, hc9⟩ := HS3.out.slot (by simp)
                  exact ⟨⟨L ++ [⟨oa, ob, ok, 0, 0, os, og⟩], 0, g9, c9, rfl, by go_num, by omega, ⟨HS3.out, hc9⟩, HE, by rw [List.length_append]; simp; omega, fun j _ h => by omega⟩, by simpa [lenV, intOf] using hms⟩
                · have hcr : 1 ≤ o.c ∧ o.c ≤ 3 := by rcases hrf with h | h <;> omega
                  have hc0 : ¬ o.c = 0 := by omega
                  clear hr0
                  have y0 := (blk_cell HOX.out 0).trans rfl
                  have y1 := (blk_cell HOX.out 1).trans rfl
                  have y2 := (blk_cell HOX.out 2).trans rfl
                  have y3 := (blk_cell HOX.out 3).trans rfl
                  have y4 := (blk_cell HOX.out 4).trans rfl
                  have y5 := (blk_cell HOX.out 5).trans rfl
                  have y6 := (blk_cell HOX.out 6).trans rfl
                  have yl := (Array.getElem?_eq_some_iff.1 HOX.out).1
                  have t0 := (blk_cell HAX.out 0).trans rfl
                  have t1 := (blk_cell HAX.out 1).trans rfl
                  have tl := (Array.getElem?_eq_some_iff.1 HAX.out).1
                  go_wp2_with fail
                  refine (l12Seen_any s g2 cap2 o.c o.d _ (HS.out.below HU.out.ul.bel hgs) hn2 hcap2 hcr.1 hcr.2).mono ?_
                  rintro e w8 ⟨rfl, hb⟩
                  replace HU := hideIt (HU.out.below hb)
                  replace HOX := hideIt (blk_bel HOX.out hb)
                  replace HAX := hideIt (blk_bel HAX.out hb)
                  clear y0 y1 y2 y3 y4 y5 y6 yl
                  clear t0 t1 tl
                  clear hb
                  cases hS3 : seenB s o.c o.d
                  · skip
                    have y0 := (blk_cell HOX.out 0).trans rfl
                    have y1 := (blk_cell HOX.out 1).trans rfl
                    have y2 := (blk_cell HOX.out 2).trans rfl
                    have y3 := (blk_cell HOX.out 3).trans rfl
                    have y4 := (blk_cell HOX.out 4).trans rfl
                    have y5 := (blk_cell HOX.out 5).trans rfl
                    have y6 := (blk_cell HOX.out 6).trans rfl
                    have yl := (Array.getElem?_eq_some_iff.1 HOX.out).1
                    have t0 := (blk_cell HAX.out 0).trans rfl
                    have t1 := (blk_cell HAX.out 1).trans rfl
                    have tl := (Array.getElem?_eq_some_iff.1 HAX.out).1
                    go_wp2_with fail
                    refine (l1Find_any L G c o.c o.d _ HU.out.ops (by omega) HU.out.cap).mono ?_
                    rintro e w9 ⟨rfl, hb⟩
                    replace HU := hideIt (HU.out.below hb)
                    replace HOX := hideIt (blk_bel HOX.out hb)
                    replace HAX := hideIt (blk_bel HAX.out hb)
                    clear y0 y1 y2 y3 y4 y5 y6 yl
                    clear t0 t1 tl
                    clear hb
                    cases hH3 : hasI L o.c o.d
                    · rw [has_no hH3]
                      have y0 := (blk_cell HOX.out 0).trans rfl
                      have y1 := (blk_cell HOX.out 1).trans rfl
                      have y2 := (blk_cell HOX.out 2).trans rfl
                      have y3 := (blk_cell HOX.out 3).trans rfl
                      have y4 := (blk_cell HOX.out 4).trans rfl
                      have y5 := (blk_cell HOX.out 5).trans rfl
                      have y6 := (blk_cell HOX.out 6).trans rfl
                      have yl := (Array.getElem?_eq_some_iff.1 HOX.out).1
                      have t0 := (blk_cell HAX.out 0).trans rfl
                      have t1 := (blk_cell HAX.out 1).trans rfl
                      have tl := (Array.getElem?_eq_some_iff.1 HAX.out).1
                      have HE := hideIt (HNO.out (by unfold rdy; (try dsimp only); rw [hS1, hH1]; rw [decide_eq_false hz, hS2]; rw [hS3, hH3]; simp [hc0]))
                      go_wp2
                      exact ⟨⟨L, k + 1, G, c, rfl, by go_num, by omega, HU.out, HPL.out, hle, HE.out⟩, by simp [lenV, intOf]; omega⟩
                    · obtain ⟨j3, hj3⟩ := has_yes hH3
                      rw [hj3]
                      clear hj3
                      have hj30 : (0 : Int) ≤ (j3 : Int) := by omega
                      have y0 := (blk_cell HOX.out 0).trans rfl
                      have y1 := (blk_cell HOX.out 1).trans rfl
                      have y2 := (blk_cell HOX.out 2).trans rfl
                      have y3 := (blk_cell HOX.out 3).trans rfl
                      have y4 := (blk_cell HOX.out 4).trans rfl
                      have y5 := (blk_cell HOX.out 5).trans rfl
                      have y6 := (blk_cell HOX.out 6).trans rfl
                      have yl := (Array.getElem?_eq_some_iff.1 HOX.out).1
                      have t0 := (blk_cell HAX.out 0).trans rfl
                      have t1 := (blk_cell HAX.out 1).trans rfl
                      have tl := (Array.getElem?_eq_some_iff.1 HAX.out).1
                      obtain ⟨HE, hll2⟩ := HYES.out (by unfold rdy; (try dsimp only); rw [hS1, hH1]; rw [decide_eq_false hz, hS2]; rw [hS3, hH3]; simp)
                      have hms := meas (l := l.length) (n := L.length) (k := k) hll2 hlt
                      go_wp2_with (first
                        | (at_builtin; refine wpList_append_own_at _ rfl _ _ 24 rfl w.heap.size 71 i0 _ 7 56 Tryd.underlying24 HI1.out HZ0.out HZ1.out HZ2.out rfl (by decide) _ _ _ rfl (HU.out.ul.row.alloc _) ⟨w9.heap.size, 0, none⟩ 1 1 (opCells [o]) rfl rfl (cellsNew' _ _ (by simp) (opCells [o]) 71) (opCells_one _) (by unfold maxLen; omega) (by omega) (by have := HU.out.ul.bel.size; simp at this ⊢; omega) ?_; intro v' w9 hown3 hg3 _ _;
                            have HS3 := hideIt (UL.app (M := [o]) (HU.out.ul.below ((Below.refl _ _).alloc (Nat.le_refl _) _)) hg3 hown3); clear hown3 hg3))
                      obtain ⟨g9, c9, rfl, hc9⟩ := HS3.out.slot (by simp)
                      exact ⟨⟨L ++ [o], 0, g9, c9, rfl, by go_num, by omega, ⟨HS3.out, hc9⟩, HE, by rw [List.length_append]; simp; omega, fun j _ h => by omega⟩, by simpa [lenV, intOf] using hms⟩
                  · skip
                    have y0 := (blk_cell HOX.out 0).trans rfl
                    have y1 := (blk_cell HOX.out 1).trans rfl
                    have y2 := (blk_cell HOX.out 2).trans rfl
                    have y3 := (blk_cell HOX.out 3).trans rfl
                    have y4 := (blk_cell HOX.out 4).trans rfl
                    have y5 := (blk_cell HOX.out 5).trans rfl
                    have y6 := (blk_cell HOX.out 6).trans rfl
                    have yl := (Array.getElem?_eq_some_iff.1 HOX.out).1
                    have t0 := (blk_cell HAX.out 0).trans rfl
                    have t1 := (blk_cell HAX.out 1).trans rfl
                    have tl := (Array.getElem?_eq_some_iff.1 HAX.out).1
                    obtain ⟨HE, hll2⟩ := HYES.out (by unfold rdy; (try dsimp only); rw [hS1, hH1]; rw [decide_eq_false hz, hS2]; rw [hS3]; simp)
                    have hms := meas (l := l.length) (n := L.length) (k := k) hll2 hlt
                    go_wp2_with (first
                      | (at_builtin; refine wpList_append_own_at _ rfl _ _ 24 rfl w.heap.size 71 i0 _ 7 56 Tryd.underlying24 HI1.out HZ0.out HZ1.out HZ2.out rfl (by decide) _ _ _ rfl (HU.out.ul.row.alloc _) ⟨w8.heap.size, 0, none⟩ 1 1 (opCells [o]) rfl rfl (cellsNew' _ _ (by simp) (opCells [o]) 71) (opCells_one _) (by unfold maxLen; omega) (by omega) (by have := HU.out.ul.bel.size; simp at this ⊢; omega) ?_; intro v' w9 hown3 hg3 _ _;
                          have HS3 := hideIt (UL.app (M := [o]) (HU.out.ul.below ((Below.refl _ _).alloc (Nat.le_refl _) _)) hg3 hown3); clear hown3 hg3))
                    obtain ⟨g9, c9, rfl, hc9⟩ := HS3.out.slot (by simp)
                    exact ⟨⟨L ++ [o], 0, g9, c9, rfl, by go_num, by omega, ⟨HS3.out, hc9⟩, HE, by rw [List.length_append]; simp; omega, fun j _ h => by omega⟩, by simpa [lenV, intOf] using hms⟩
          · obtain ⟨j1, hj1⟩ := has_yes hH1
            rw [hj1]
            clear hj1
            have hj10 : (0 : Int) ≤ (j1 : Int) := by omega
            have hj11 : ¬ ((j1 : Int) < 0) := by omega
            have y0 := (blk_cell HOX.out 0).trans rfl
            have y1 := (blk_cell HOX.out 1).trans rfl
            have y2 := (blk_cell HOX.out 2).trans rfl
            have y3 := (blk_cell HOX.out 3).trans rfl
            have y4 := (blk_cell HOX.out 4).trans rfl
            have y5 := (blk_cell HOX.out 5).trans rfl
            have y6 := (blk_cell HOX.out 6).trans rfl
            have yl := (Array.getElem?_eq_some_iff.1 HOX.out).1
            have HBA : Hid (Below w1.heap.size w1 (w1.alloc (.cells #[.int .i64 o.a, .int .i64 (o.b - 1)] 69))) := (Below.refl _ _).alloc (Nat.le_refl _) _
            have HUp := hideIt (HU.out.below HBA.out)
            have HOXp := hideIt (blk_bel HOX.out HBA.out)
            have HAXp : Hid ((w1.alloc (.cells #[.int .i64 o.a, .int .i64 (o.b - 1)] 69)).heap[w1.heap.size]? = some (.cells #[.int .i64 o.a, .int .i64 (o.b - 1)] 69 (0, 0))) := World.alloc_heap_new _ _
            have HE := hideIt (HNO.out (by unfold rdy; (try dsimp only); rw [hS1, hH1]; simp))
            go_wp2
            exact ⟨⟨L, k + 1, G, c, rfl, by go_num, by omega, HUp.out, HPL.out, hle, HE.out⟩, by simp [lenV, intOf]; omega⟩
        · skip
          have y0 := (blk_cell HOX.out 0).trans rfl
          have y1 := (blk_cell HOX.out 1).trans rfl
          have y2 := (blk_cell HOX.out 2).trans rfl
          have y3 := (blk_cell HOX.out 3).trans rfl
          have y4 := (blk_cell HOX.out 4).trans rfl
          have y5 := (blk_cell HOX.out 5).trans rfl
          have y6 := (blk_cell HOX.out 6).trans rfl
          have yl := (Array.getElem?_eq_some_iff.1 HOX.out).1
          have HBA : Hid (Below w0.heap.size w0 (w0.alloc (.cells #[.int .i64 o.a, .int .i64 (o.b - 1)] 69))) := (Below.refl _ _).alloc (Nat.le_refl _) _
          have HUp := hideIt (HU.out.below HBA.out)
          have HOXp := hideIt (blk_bel HOX.out HBA.out)
          have HAXp : Hid ((w0.alloc (.cells #[.int .i64 o.a, .int .i64 (o.b - 1)] 69)).heap[w0.heap.size]? = some (.cells #[.int .i64 o.a, .int .i64 (o.b - 1)] 69 (0, 0))) := World.alloc_heap_new _ _
          have HE := hideIt (HNO.out (by unfold rdy; (try dsimp only); rw [hS1]; simp))
          go_wp2
          exact ⟨⟨L, k + 1, G, c, rfl, by go_num, by omega, HUp.out, HPL.out, hle, HE.out⟩, by simp [lenV, intOf]; omega⟩
      · have HE : Hid (past l s most.toNat = L) := by
          show _ = _
          rw [show most.toNat = L.length by omega, ← HPL.out]
        go_wp2
        go_ret
        exact ⟨G, c, by rw [HE.out]; rfl, by rw [HE.out]; exact HU.out⟩
    · obtain rfl : k = l.length := by omega
      have HE : Hid (past l s most.toNat = L) := by
        show _ = _
        have hnone := past_none (l := l) (s := s) (k := L.length) (fun j hj => by rw [← HPL.out]; exact HBF.out j hj hj)
        rw [past_end hnone most.toNat hle, ← HPL.out]
      clear HBF
      go_wp2
      go_ret
      exact ⟨G, c, by rw [HE.out]; rfl, by rw [HE.out]; exact HU.out⟩

set_option maxRecDepth 100000 in
set_option maxHeartbeats 2000000 in
theorem specPast_any (l : List Op7) (s : List Int) (most : Int) (g cap g2 cap2 : Nat) (w : World) (hl : OpsAt w g l) (hn : l.length ≤ 1048576) (hcap : l.length ≤ cap) (hs : IntsAt w g2 s) (hn2 : s.length ≤ 1048576) (hcap2 : s.length ≤ cap2) :
    Calls Tryd.prog 35 #[.slice (some ⟨g, 0, none⟩) l.length cap, .slice (some ⟨g2, 0, none⟩) s.length cap2, .int .i64 most] w fun e w' => ∃ v, e = .returned v ∧ w'.ownsRow w.heap.size 71 7 v (ansP l s most).length (opCells (ansP l s most)) ∧ Below w.heap.size w w' := by
  have HL := hideIt hl
  have HS := hideIt hs
  have hgw := hl.1
  have hgs := hs.1
  clear hl hs
  cases ho : opsB l
  all_goals
    have HO := hideIt ho
    clear ho
    go_enter Tryd.func35, Tryd.ntmps35
    go_wp2_with fail
    refine (specOps_any l _ _ _ HL.out hn hcap).mono ?_
    rintro e w1 ⟨rfl, hb1⟩
    rw [HO.out]
    have HB1 := hideIt hb1
    clear hb1
  · go_wp2
    go_ret
    refine ⟨_, rfl, ?_, HB1.out.alloc HB1.out.size _⟩
    unfold ansP
    rw [HO.out]
    exact ownsRow_base (b' := w.heap.size) HB1.out.size (World.ownsRow_made (base := w1.heap.size) (e := 71) (size := 7) w1 #[] 0 (Nat.le_refl _) (Nat.zero_le _) rfl)
  · have HOK := hideIt (opsB_parts HO.out).1
    go_wp2_with fail
    refine (l12Past_any l s most g cap g2 cap2 HOK.out _ (HL.out.below HB1.out hgw) hn hcap (HS.out.below HB1.out hgs) hn2 hcap2).mono ?_
    rintro e w2 ⟨G, c, rfl, hu⟩
    have HU := hideIt hu
    clear hu
    go_wp2
    go_ret
    refine ⟨_, rfl, ?_, Bstep HB1.out HU.out.ul.bel⟩
    unfold ansP
    rw [if_pos HO.out]
    exact ownsRow_base (b' := w.heap.size) HB1.out.size HU.out.ul.row
end Go.Proofs.YtficnhlkefpfnaaDoor

namespace Go.Proofs.YtficnhlkefpfnaaDoor
open Go.RowKit
set_option linter.unusedSimpArgs false
set_option linter.unusedVariables false
attribute [local go_sem ↓] Go.wp_at_zero Go.wp_at_succ

/-- Whether a desk has something to tell. -/
def pushB (r : Int) (l ws : List Op7) (s : List Int) : Bool := deskB r l ws s && decide (¬ (ansP l s 5).length = 0)
theorem push_no {r : Int} {l ws : List Op7} {s : List Int} (h : deskB r l ws s = false) : pushB r l ws s = false := by unfold pushB; rw [h]; rfl
theorem push_len {r : Int} {l ws : List Op7} {s : List Int} (h : deskB r l ws s = true) : pushB r l ws s = decide (¬ (ansP l s 5).length = 0) := by unfold pushB; rw [h]; rfl
theorem row_away {W : World} {base : Nat} {v u : Value} {n b i : Nat} {xs : List Value} {cs : Array Value} {T : TypeId} (h : W.ownsRow base 71 7 v n xs) (hx : W.heap[b]? = some (.cells cs T (0, 0))) (hT : T ≠ 71) : (W.setCell ⟨b, i, none⟩ u).ownsRow base 71 7 v n xs := by
  have hg : W.grownBy (W.setCell ⟨b, i, none⟩ u) (some b) := ⟨rfl, rfl, rfl, by simp, fun k hk hne => Below.heap_setCell _ _ _ _ (fun e => hne (by rw [e]))⟩
  refine h.kept hg (.inr fun e => ?_)
  rcases h.2 with ⟨rfl, _⟩ | ⟨g, cap, cur, rfl, _, hgb, _⟩
  · simp [Value.ownBlock] at e
  · obtain rfl : g = b := by simpa [Value.ownBlock] using e
    rw [hx] at hgb
    cases hgb
    exact hT rfl

set_option maxRecDepth 100000 in
set_option maxHeartbeats 1000000 in
theorem implPush_any (r : Int) (l ws : List Op7) (s : List Int) (g cap g2 cap2 g3 cap3 : Nat) (x : Addr) (w : World) (hl : OpsAt w g l) (hn : l.length ≤ 1048576) (hcap : l.length ≤ cap) (hs : OpsAt w g2 ws) (hn2 : ws.length ≤ 1048576) (hcap2 : ws.length ≤ cap2) (hi : IntsAt w g3 s) (hn3 : s.length ≤ 1048576) (hcap3 : s.length ≤ cap3)
    (he : w.cell? ⟨0, 0, none⟩ = some (.iface 200 (.pointer (some x)))) (h0 : 0 < w.heap.size) :
    Calls Tryd.prog 53 #[.agg #[.int .i64 r, .slice (some ⟨g, 0, none⟩) l.length cap, .slice (some ⟨g2, 0, none⟩) ws.length cap2, .slice (some ⟨g3, 0, none⟩) s.length cap3]] w fun e w' =>
      ((pushB r l ws s = true ∧ ∃ v, e = .returned (.tuple #[.agg #[.int .i64 3, .int .i64 r, .slice none 0 0, v], .bool true]) ∧ w'.ownsRow w.heap.size 71 7 v (ansP l s 5).length (opCells (ansP l s 5))) ∨ (pushB r l ws s = false ∧ e = .returned (.tuple #[.agg #[.int .i64 0, .int .i64 0, .slice none 0 0, .slice none 0 0], .bool false]))) ∧ Below w.heap.size w w' := by
  have HL := hideIt hl
  have HS := hideIt hs
  have HI := hideIt hi
  have hgw := hl.1
  have hgs := hs.1
  have hgi := hi.1
  clear hl hs hi
  obtain ⟨zz, hzz⟩ : ∃ zz, deskB r l ws s = zz := ⟨_, rfl⟩
  have HZ := hideIt hzz
  clear hzz
  have hB0 : Below w.heap.size w ((w.alloc (.cells #[.int .i64 r, .slice (some ⟨g, 0, none⟩) l.length cap, .slice (some ⟨g2, 0, none⟩) ws.length cap2, .slice (some ⟨g3, 0, none⟩) s.length cap3] 41)).alloc (.cells #[.int .i64 0, .int .i64 0, .slice none 0 0, .slice none 0 0] 46)) := ((Below.refl _ _).alloc (Nat.le_refl _) _).alloc (by simp) _
  have hD0 : ((w.alloc (.cells #[.int .i64 r, .slice (some ⟨g, 0, none⟩) l.length cap, .slice (some ⟨g2, 0, none⟩) ws.length cap2, .slice (some ⟨g3, 0, none⟩) s.length cap3] 41)).alloc (.cells #[.int .i64 0, .int .i64 0, .slice none 0 0, .slice none 0 0] 46)).heap[w.heap.size]? = some (.cells #[.int .i64 r, .slice (some ⟨g, 0, none⟩) l.length cap, .slice (some ⟨g2, 0, none⟩) ws.length cap2, .slice (some ⟨g3, 0, none⟩) s.length cap3] 41 (0, 0)) := blk_below (World.alloc_heap_new _ _) ((Below.refl _ _).alloc (Nat.le_refl _) _)
  have hR0 : ((w.alloc (.cells #[.int .i64 r, .slice (some ⟨g, 0, none⟩) l.length cap, .slice (some ⟨g2, 0, none⟩) ws.length cap2, .slice (some ⟨g3, 0, none⟩) s.length cap3] 41)).alloc (.cells #[.int .i64 0, .int .i64 0, .slice none 0 0, .slice none 0 0] 46)).heap[w.heap.size + 1]? = some (.cells #[.int .i64 0, .int .i64 0, .slice none 0 0, .slice none 0 0] 46 (0, 0)) := by
    have h := World.alloc_heap_new (w.alloc (.cells #[.int .i64 r, .slice (some ⟨g, 0, none⟩) l.length cap, .slice (some ⟨g2, 0, none⟩) ws.length cap2, .slice (some ⟨g3, 0, none⟩) s.length cap3] 41)) (.cells #[.int .i64 0, .int .i64 0, .slice none 0 0, .slice none 0 0] 46)
    rw [World.size_alloc] at h
    exact h
  have HB0 := hideIt hB0
  have HD0 := hideIt hD0
  have HR0 := hideIt hR0
  clear hB0 hD0 hR0
  go_enter Tryd.func53, Tryd.ntmps53
  go_wp2_with fail
  refine (implDesk_any r l ws s g cap g2 cap2 g3 cap3 x _ (HL.out.below HB0.out hgw) hn hcap (HS.out.below HB0.out hgs) hn2 hcap2 (HI.out.below HB0.out hgi) hn3 hcap3 (errB HB0.out h0 he) (posB HB0.out h0)).mono ?_
  rintro e w1 ⟨rfl, hb1⟩
  rw [HZ.out]
  cases zz
  all_goals
    have HB1 := hideIt (Bstep HB0.out hb1)
    have HD1 := hideIt (blk_below HD0.out hb1)
    have HR1 := hideIt (blk_below HR0.out hb1)
    clear hb1 HB0 HD0 HR0
    have d0 := (blk_cell HD1.out 0).trans rfl
    have d1 := (blk_cell HD1.out 1).trans rfl
    have d2 := (blk_cell HD1.out 2).trans rfl
    have d3 := (blk_cell HD1.out 3).trans rfl
    have dl := (Array.getElem?_eq_some_iff.1 HD1.out).1
    have r0 := (blk_cell HR1.out 0).trans rfl
    have r1 := (blk_cell HR1.out 1).trans rfl
    have r2 := (blk_cell HR1.out 2).trans rfl
    have r3 := (blk_cell HR1.out 3).trans rfl
    have rl := (Array.getElem?_eq_some_iff.1 HR1.out).1
    have rf : ∀ j, w1.frozen? ⟨w.heap.size + 1, j, none⟩ = false := fun j => by simp [World.frozen?, HR1.out]
  · go_wp2
    have hb9 := set_cs (i := 3) (u := .slice none 0 0) (set_cs (i := 2) (u := .slice none 0 0) (set_cs (i := 1) (u := .int .i64 0) (set_cs (i := 0) (u := .int .i64 0) HR1.out)))
    have v0 := (blk_cell hb9 0).trans rfl
    have v1 := (blk_cell hb9 1).trans rfl
    have v2 := (blk_cell hb9 2).trans rfl
    have v3 := (blk_cell hb9 3).trans rfl
    exact bodyPost_ret (v := .tuple #[.agg #[.int .i64 0, .int .i64 0, .slice none 0 0, .slice none 0 0], .bool false]) (by simp [results, Tryd.results53, go_sem, v0, v1, v2, v3]) rfl ⟨.inr ⟨push_no HZ.out, rfl⟩, (((HB1.out.setCell (p := ⟨w.heap.size + 1, 0, none⟩) (by show w.heap.size ≤ w.heap.size + 1; omega) _).setCell (p := ⟨w.heap.size + 1, 1, none⟩) (by show w.heap.size ≤ w.heap.size + 1; omega) _).setCell (p := ⟨w.heap.size + 1, 2, none⟩) (by show w.heap.size ≤ w.heap.size + 1; omega) _).setCell (p := ⟨w.heap.size + 1, 3, none⟩) (by show w.heap.size ≤ w.heap.size + 1; omega) _⟩
  · go_wp2_with fail
    refine (workOf_any r _ _ _ _ _ _ _ _ _ _).mono ?_
    rintro e w2 ⟨b, rfl, hb, hW2, hb2⟩
    have hz1 : w.heap.size + 1 < w1.heap.size := rl
    have HW2 := hideIt hW2
    have HB2 := hideIt (Bstep HB1.out hb2)
    have HR2 := hideIt (blk_below HR1.out hb2)
    clear hW2 hb2 HB1 HD1 HR1 d0 d1 d2 d3 dl r0 r1 r2 r3 rl rf
    obtain ⟨c0, c1, c2, c3⟩ := HW2.out.cells
    have cl := (Array.getElem?_eq_some_iff.1 HW2.out).1
    have HO := hideIt (desk_doc HZ.out)
    have r0 := (blk_cell HR2.out 0).trans rfl
    have r1 := (blk_cell HR2.out 1).trans rfl
    have r2 := (blk_cell HR2.out 2).trans rfl
    have r3 := (blk_cell HR2.out 3).trans rfl
    have rl := (Array.getElem?_eq_some_iff.1 HR2.out).1
    have rf : ∀ j, w2.frozen? ⟨w.heap.size + 1, j, none⟩ = false := fun j => by simp [World.frozen?, HR2.out]
    have hbR : ¬ b = w.heap.size + 1 := by omega
    have hRb : ¬ w.heap.size + 1 = b := by omega
    go_wp2
    have HBd := hideIt HB2.out.drew
    have HWd : Hid (WorkAt (World.drew w2) b _ _ r _) := HW2.out
    have HRd : Hid ((World.drew w2).heap[w.heap.size + 1]? = some (.cells #[.int .i64 0, .int .i64 0, .slice none 0 0, .slice none 0 0] 46 (0, 0))) := HR2.out
    clear HB2 HW2 HR2
    go_region_with (first | (go_at_call 37; refine (implPast_any l s 5 g cap g3 cap3 x _ (HL.out.below HBd.out hgw) hn hcap (HI.out.below HBd.out hgi) hn3 hcap3 (errB HBd.out h0 he) (posB HBd.out h0)).mono ?_; rintro e w3 ⟨v, rfl, hrow, hb3⟩; obtain ⟨vp, vc, rfl⟩ := own_len hrow; have HROW := hideIt (ownsRow_base (b' := w.heap.size) HBd.out.size hrow); have HBd := hideIt (Bstep HBd.out hb3); have HWd := hideIt (HWd.out.below hb3); have HRd := hideIt (blk_below HRd.out hb3); obtain ⟨c0, c1, c2, c3⟩ := HWd.out.cells; have cl := (Array.getElem?_eq_some_iff.1 HWd.out).1; have r0 := (blk_cell HRd.out 0).trans rfl; have r1 := (blk_cell HRd.out 1).trans rfl; have r2 := (blk_cell HRd.out 2).trans rfl; have r3 := (blk_cell HRd.out 3).trans rfl; have rl := (Array.getElem?_eq_some_iff.1 HRd.out).1; have rf : ∀ j, w3.frozen? ⟨w.heap.size + 1, j, none⟩ = false := (fun j => by simp [World.frozen?, HRd.out]); clear hrow hb3))
    all_goals
      have HB3 := HBd
      have HR3 := HRd
      have HW3 := HWd
      have hNN : (ansP l s 5).length ≤ 1048576 := Nat.le_trans (ansP_len _ _ _) hn
      have hPE := push_len (r := r) (l := l) (ws := ws) (s := s) HZ.out
      have HPE := hideIt hPE
      clear hPE
      generalize hNE : (ansP l s 5).length = N at *
      by_cases hN0 : N = 0
      · subst hN0
        go_wp2
        have hb9 := set_cs (i := 3) (u := .slice none 0 0) (set_cs (i := 2) (u := .slice none 0 0) (set_cs (i := 1) (u := .int .i64 0) (set_cs (i := 0) (u := .int .i64 0) HR3.out)))
        have v0 := (blk_cell hb9 0).trans rfl
        have v1 := (blk_cell hb9 1).trans rfl
        have v2 := (blk_cell hb9 2).trans rfl
        have v3 := (blk_cell hb9 3).trans rfl
        exact bodyPost_ret (v := .tuple #[.agg #[.int .i64 0, .int .i64 0, .slice none 0 0, .slice none 0 0], .bool false]) (by simp [results, Tryd.results53, go_sem, v0, v1, v2, v3]) rfl ⟨.inr ⟨by rw [HPE.out]; simp, rfl⟩, (((HB3.out.setCell (p := ⟨w.heap.size + 1, 0, none⟩) (by show w.heap.size ≤ w.heap.size + 1; omega) _).setCell (p := ⟨w.heap.size + 1, 1, none⟩) (by show w.heap.size ≤ w.heap.size + 1; omega) _).setCell (p := ⟨w.heap.size + 1, 2, none⟩) (by show w.heap.size ≤ w.heap.size + 1; omega) _).setCell (p := ⟨w.heap.size + 1, 3, none⟩) (by show w.heap.size ≤ w.heap.size + 1; omega) _⟩
      · have hN1 : ¬ ((N : Int) = 0) := by omega
        go_wp2
        have hr1 := row_away (i := 0) (u := .int .i64 3) HROW.out HR3.out (by decide)
        have hc1 := set_cs (i := 0) (u := .int .i64 3) HR3.out
        have hr2 := row_away (i := 1) (u := .int .i64 r) hr1 hc1 (by decide)
        have hc2 := set_cs (i := 1) (u := .int .i64 r) hc1
        have hr3 := row_away (i := 2) (u := .slice none 0 0) hr2 hc2 (by decide)
        have hc3 := set_cs (i := 2) (u := .slice none 0 0) hc2
        have hr4 := row_away (i := 3) (u := .slice vp N vc) hr3 hc3 (by decide)
        have hb9 := set_cs (i := 3) (u := .slice vp N vc) hc3
        have v0 := (blk_cell hb9 0).trans rfl
        have v1 := (blk_cell hb9 1).trans rfl
        have v2 := (blk_cell hb9 2).trans rfl
        have v3 := (blk_cell hb9 3).trans rfl
        exact bodyPost_ret (v := .tuple #[.agg #[.int .i64 3, .int .i64 r, .slice none 0 0, .slice vp N vc], .bool true]) (by simp [results, Tryd.results53, go_sem, v0, v1, v2, v3]) rfl ⟨.inl ⟨by rw [HPE.out]; simp [hN0], _, rfl, by rw [hNE]; exact hr4⟩, (((HB3.out.setCell (p := ⟨w.heap.size + 1, 0, none⟩) (by show w.heap.size ≤ w.heap.size + 1; omega) _).setCell (p := ⟨w.heap.size + 1, 1, none⟩) (by show w.heap.size ≤ w.heap.size + 1; omega) _).setCell (p := ⟨w.heap.size + 1, 2, none⟩) (by show w.heap.size ≤ w.heap.size + 1; omega) _).setCell (p := ⟨w.heap.size + 1, 3, none⟩) (by show w.heap.size ≤ w.heap.size + 1; omega) _⟩
theorem pastA_any (l : List Op7) (s : List Int) (most : Int) (g cap g2 cap2 : Nat) (hO : opsB l = true) (w : World) (hl : OpsAt w g l) (hn : l.length ≤ 1048576) (hcap : l.length ≤ cap) (hs : IntsAt w g2 s) (hn2 : s.length ≤ 1048576) (hcap2 : s.length ≤ cap2) :
    Calls Tryd.prog 76 #[.slice (some ⟨g, 0, none⟩) l.length cap, .slice (some ⟨g2, 0, none⟩) s.length cap2, .int .i64 most] w fun e w' => ∃ G c, e = .returned (.slice (some ⟨G, 0, none⟩) (ansP l s most).length c) ∧ SU w w' G c (ansP l s most) := by
  refine (l12Past_any l s most g cap g2 cap2 (opsB_parts hO).1 w hl hn hcap hs hn2 hcap2).mono ?_
  have e1 : past l s most.toNat = ansP l s most := by unfold ansP; rw [if_pos hO]
  rw [e1]
  exact fun _ _ h => h
set_option maxRecDepth 100000 in
set_option maxHeartbeats 1000000 in
theorem l21Push_any (r : Int) (l ws : List Op7) (s : List Int) (hO : opsB l = true) (g cap g2 cap2 g3 cap3 : Nat) (w : World) (hl : OpsAt w g l) (hn : l.length ≤ 1048576) (hcap : l.length ≤ cap) (hi : IntsAt w g3 s) (hn3 : s.length ≤ 1048576) (hcap3 : s.length ≤ cap3) :
    Calls Tryd.prog 89 #[.agg #[.int .i64 r, .slice (some ⟨g, 0, none⟩) l.length cap, .slice (some ⟨g2, 0, none⟩) ws.length cap2, .slice (some ⟨g3, 0, none⟩) s.length cap3]] w fun e w' =>
      (((ansP l s 5).length = 0 ∧ e = .returned (.tuple #[.agg #[.int .i64 0, .int .i64 0, .slice none 0 0, .slice none 0 0], .bool false])) ∨ (¬ (ansP l s 5).length = 0 ∧ ∃ K v, e = .returned (.tuple #[.agg #[.int .i64 3, .int .i64 r, .slice (some ⟨K, 0, none⟩) 0 0, v], .bool true]) ∧ w'.ownsRow w.heap.size 71 7 v (ansP l s 5).length (opCells (ansP l s 5)))) ∧ Below w.heap.size w w' := by
  have HL := hideIt hl
  have hgw := hl.1
  have HOP := hideIt (opsB_parts hO)
  have HI := hideIt hi
  have hgi := hi.1
  have HOK := hideIt (opsB_parts hO).1
  have HO := hideIt hO
  clear hl hi
  have hB0 : Below w.heap.size w ((w.alloc (.cells #[.int .i64 r, .slice (some ⟨g, 0, none⟩) l.length cap, .slice (some ⟨g2, 0, none⟩) ws.length cap2, .slice (some ⟨g3, 0, none⟩) s.length cap3] 41)).alloc (.cells #[.int .i64 0, .int .i64 0, .slice none 0 0, .slice none 0 0] 46)) := ((Below.refl _ _).alloc (Nat.le_refl _) _).alloc (by simp) _
  have hD0 : ((w.alloc (.cells #[.int .i64 r, .slice (some ⟨g, 0, none⟩) l.length cap, .slice (some ⟨g2, 0, none⟩) ws.length cap2, .slice (some ⟨g3, 0, none⟩) s.length cap3] 41)).alloc (.cells #[.int .i64 0, .int .i64 0, .slice none 0 0, .slice none 0 0] 46)).heap[w.heap.size]? = some (.cells #[.int .i64 r, .slice (some ⟨g, 0, none⟩) l.length cap, .slice (some ⟨g2, 0, none⟩) ws.length cap2, .slice (some ⟨g3, 0, none⟩) s.length cap3] 41 (0, 0)) := blk_below (World.alloc_heap_new _ _) ((Below.refl _ _).alloc (Nat.le_refl _) _)
  have hR0 : ((w.alloc (.cells #[.int .i64 r, .slice (some ⟨g, 0, none⟩) l.length cap, .slice (some ⟨g2, 0, none⟩) ws.length cap2, .slice (some ⟨g3, 0, none⟩) s.length cap3] 41)).alloc (.cells #[.int .i64 0, .int .i64 0, .slice none 0 0, .slice none 0 0] 46)).heap[w.heap.size + 1]? = some (.cells #[.int .i64 0, .int .i64 0, .slice none 0 0, .slice none 0 0] 46 (0, 0)) := by
    have h := World.alloc_heap_new (w.alloc (.cells #[.int .i64 r, .slice (some ⟨g, 0, none⟩) l.length cap, .slice (some ⟨g2, 0, none⟩) ws.length cap2, .slice (some ⟨g3, 0, none⟩) s.length cap3] 41)) (.cells #[.int .i64 0, .int .i64 0, .slice none 0 0, .slice none 0 0] 46)
    rw [World.size_alloc] at h
    exact h
  have HB0 := hideIt hB0
  have HD0 := hideIt hD0
  have HR0 := hideIt hR0
  clear hB0 hD0 hR0
  go_enter Tryd.func89, Tryd.ntmps89
  go_wp2_with fail
  refine (pastA_any l s 5 g cap g3 cap3 HO.out _ (HL.out.below HB0.out hgw) hn hcap (HI.out.below HB0.out hgi) hn3 hcap3).mono ?_
  rintro e w3 ⟨G, c, rfl, hu⟩
  have HROW := hideIt (ownsRow_base (b' := w.heap.size) HB0.out.size hu.ul.row)
  have HB3 := hideIt (Bstep HB0.out hu.ul.bel)
  have HD3 := hideIt (blk_below HD0.out hu.ul.bel)
  have HR3 := hideIt (blk_below HR0.out hu.ul.bel)
  clear hu HB0 HD0 HR0
  have d0 := (blk_cell HD3.out 0).trans rfl
  have d1 := (blk_cell HD3.out 1).trans rfl
  have d2 := (blk_cell HD3.out 2).trans rfl
  have d3 := (blk_cell HD3.out 3).trans rfl
  have dl := (Array.getElem?_eq_some_iff.1 HD3.out).1
  have r0 := (blk_cell HR3.out 0).trans rfl
  have r1 := (blk_cell HR3.out 1).trans rfl
  have r2 := (blk_cell HR3.out 2).trans rfl
  have r3 := (blk_cell HR3.out 3).trans rfl
  have rl := (Array.getElem?_eq_some_iff.1 HR3.out).1
  have rf : ∀ j, w3.frozen? ⟨w.heap.size + 1, j, none⟩ = false := fun j => by simp [World.frozen?, HR3.out]
  have hNN : (ansP l s 5).length ≤ 1048576 := Nat.le_trans (ansP_len _ _ _) hn
  generalize hNE : (ansP l s 5).length = N at *
  by_cases hN0 : N = 0
  · subst hN0
    go_wp2
    have hb9 := set_cs (i := 3) (u := .slice none 0 0) (set_cs (i := 2) (u := .slice none 0 0) (set_cs (i := 1) (u := .int .i64 0) (set_cs (i := 0) (u := .int .i64 0) HR3.out)))
    have v0 := (blk_cell hb9 0).trans rfl
    have v1 := (blk_cell hb9 1).trans rfl
    have v2 := (blk_cell hb9 2).trans rfl
    have v3 := (blk_cell hb9 3).trans rfl
    exact bodyPost_ret (v := .tuple #[.agg #[.int .i64 0, .int .i64 0, .slice none 0 0, .slice none 0 0], .bool false]) (by simp [results, Tryd.results89, go_sem, v0, v1, v2, v3]) rfl ⟨.inl ⟨by simp [hNE], rfl⟩, (((HB3.out.setCell (p := ⟨w.heap.size + 1, 0, none⟩) (by show w.heap.size ≤ w.heap.size + 1; omega) _).setCell (p := ⟨w.heap.size + 1, 1, none⟩) (by show w.heap.size ≤ w.heap.size + 1; omega) _).setCell (p := ⟨w.heap.size + 1, 2, none⟩) (by show w.heap.size ≤ w.heap.size + 1; omega) _).setCell (p := ⟨w.heap.size + 1, 3, none⟩) (by show w.heap.size ≤ w.heap.size + 1; omega) _⟩
  · have hN1 : ¬ ((N : Int) = 0) := by omega
    have hRW : w.heap.size + 1 ≠ w3.heap.size := by omega
    have hRW' : w3.heap.size ≠ w.heap.size + 1 := by omega
    go_wp2
    have hr1 := row_away (i := 0) (u := .int .i64 3) HROW.out HR3.out (by decide)
    have hc1 := set_cs (i := 0) (u := .int .i64 3) HR3.out
    have hr2 := row_away (i := 1) (u := .int .i64 r) hr1 hc1 (by decide)
    have hc2 := set_cs (i := 1) (u := .int .i64 r) hc1
    have hr3 := row_away (i := 2) (u := .slice (some ⟨w3.heap.size, 0, none⟩) 0 0) hr2 hc2 (by decide)
    have hc3 := set_cs (i := 2) (u := .slice (some ⟨w3.heap.size, 0, none⟩) 0 0) hc2
    have hr4 := row_away (i := 3) (u := .slice (some ⟨G, 0, none⟩) N c) hr3 hc3 (by decide)
    have hb9 := set_cs (i := 3) (u := .slice (some ⟨G, 0, none⟩) N c) hc3
    have hbel := (((HB3.out.setCell (p := ⟨w.heap.size + 1, 0, none⟩) (by show w.heap.size ≤ w.heap.size + 1; omega) (.int .i64 3)).setCell (p := ⟨w.heap.size + 1, 1, none⟩) (by show w.heap.size ≤ w.heap.size + 1; omega) (.int .i64 r)).setCell (p := ⟨w.heap.size + 1, 2, none⟩) (by show w.heap.size ≤ w.heap.size + 1; omega) (.slice (some ⟨w3.heap.size, 0, none⟩) 0 0)).setCell (p := ⟨w.heap.size + 1, 3, none⟩) (by show w.heap.size ≤ w.heap.size + 1; omega) (.slice (some ⟨G, 0, none⟩) N c)
    have hb10 := blk_below hb9 ((Below.refl _ _).alloc (Nat.le_refl _) (.cells #[] 3))
    have v0 := (blk_cell hb10 0).trans rfl
    have v1 := (blk_cell hb10 1).trans rfl
    have v2 := (blk_cell hb10 2).trans rfl
    have v3 := (blk_cell hb10 3).trans rfl
    exact bodyPost_ret (v := .tuple #[.agg #[.int .i64 3, .int .i64 r, .slice (some ⟨w3.heap.size, 0, none⟩) 0 0, .slice (some ⟨G, 0, none⟩) N c], .bool true]) (by simp [results, Tryd.results89, go_sem, v0, v1, v2, v3]) rfl ⟨.inr ⟨by rw [hNE]; exact hN0, _, _, rfl, by rw [hNE]; exact hr4.alloc _⟩, hbel.alloc hbel.size _⟩
set_option maxRecDepth 100000 in
set_option maxHeartbeats 1000000 in
theorem specPush_any (r : Int) (l ws : List Op7) (s : List Int) (g cap g2 cap2 g3 cap3 : Nat) (w : World) (hl : OpsAt w g l) (hn : l.length ≤ 1048576) (hcap : l.length ≤ cap) (hs : OpsAt w g2 ws) (hn2 : ws.length ≤ 1048576) (hcap2 : ws.length ≤ cap2) (hi : IntsAt w g3 s) (hn3 : s.length ≤ 1048576) (hcap3 : s.length ≤ cap3) :
    Calls Tryd.prog 52 #[.agg #[.int .i64 r, .slice (some ⟨g, 0, none⟩) l.length cap, .slice (some ⟨g2, 0, none⟩) ws.length cap2, .slice (some ⟨g3, 0, none⟩) s.length cap3]] w fun e w' =>
      ((pushB r l ws s = true ∧ ∃ K v, e = .returned (.tuple #[.agg #[.int .i64 3, .int .i64 r, .slice (some ⟨K, 0, none⟩) 0 0, v], .bool true]) ∧ w'.ownsRow w.heap.size 71 7 v (ansP l s 5).length (opCells (ansP l s 5))) ∨ (pushB r l ws s = false ∧ e = .returned (.tuple #[.agg #[.int .i64 0, .int .i64 0, .slice none 0 0, .slice none 0 0], .bool false]))) ∧ Below w.heap.size w w' := by
  have HL := hideIt hl
  have HS := hideIt hs
  have HI := hideIt hi
  have hgw := hl.1
  have hgs := hs.1
  have hgi := hi.1
  clear hl hs hi
  obtain ⟨zz, hzz⟩ : ∃ zz, deskB r l ws s = zz := ⟨_, rfl⟩
  have HZ := hideIt hzz
  clear hzz
  have hB0 : Below w.heap.size w ((w.alloc (.cells #[.int .i64 r, .slice (some ⟨g, 0, none⟩) l.length cap, .slice (some ⟨g2, 0, none⟩) ws.length cap2, .slice (some ⟨g3, 0, none⟩) s.length cap3] 41)).alloc (.cells #[.int .i64 0, .int .i64 0, .slice none 0 0, .slice none 0 0] 46)) := ((Below.refl _ _).alloc (Nat.le_refl _) _).alloc (by simp) _
  have hD0 : ((w.alloc (.cells #[.int .i64 r, .slice (some ⟨g, 0, none⟩) l.length cap, .slice (some ⟨g2, 0, none⟩) ws.length cap2, .slice (some ⟨g3, 0, none⟩) s.length cap3] 41)).alloc (.cells #[.int .i64 0, .int .i64 0, .slice none 0 0, .slice none 0 0] 46)).heap[w.heap.size]? = some (.cells #[.int .i64 r, .slice (some ⟨g, 0, none⟩) l.length cap, .slice (some ⟨g2, 0, none⟩) ws.length cap2, .slice (some ⟨g3, 0, none⟩) s.length cap3] 41 (0, 0)) := blk_below (World.alloc_heap_new _ _) ((Below.refl _ _).alloc (Nat.le_refl _) _)
  have hR0 : ((w.alloc (.cells #[.int .i64 r, .slice (some ⟨g, 0, none⟩) l.length cap, .slice (some ⟨g2, 0, none⟩) ws.length cap2, .slice (some ⟨g3, 0, none⟩) s.length cap3] 41)).alloc (.cells #[.int .i64 0, .int .i64 0, .slice none 0 0, .slice none 0 0] 46)).heap[w.heap.size + 1]? = some (.cells #[.int .i64 0, .int .i64 0, .slice none 0 0, .slice none 0 0] 46 (0, 0)) := by
    have h := World.alloc_heap_new (w.alloc (.cells #[.int .i64 r, .slice (some ⟨g, 0, none⟩) l.length cap, .slice (some ⟨g2, 0, none⟩) ws.length cap2, .slice (some ⟨g3, 0, none⟩) s.length cap3] 41)) (.cells #[.int .i64 0, .int .i64 0, .slice none 0 0, .slice none 0 0] 46)
    rw [World.size_alloc] at h
    exact h
  have HB0 := hideIt hB0
  have HD0 := hideIt hD0
  have HR0 := hideIt hR0
  clear hB0 hD0 hR0
  go_enter Tryd.func52, Tryd.ntmps52
  go_wp2_with fail
  refine (specDesk_any r l ws s g cap g2 cap2 g3 cap3 _ (HL.out.below HB0.out hgw) hn hcap (HS.out.below HB0.out hgs) hn2 hcap2 (HI.out.below HB0.out hgi) hn3 hcap3).mono ?_
  rintro e w1 ⟨rfl, hb1⟩
  rw [HZ.out]
  cases zz
  all_goals
    have HB1 := hideIt (Bstep HB0.out hb1)
    have HD1 := hideIt (blk_below HD0.out hb1)
    have HR1 := hideIt (blk_below HR0.out hb1)
    clear hb1 HB0 HD0 HR0
    have d0 := (blk_cell HD1.out 0).trans rfl
    have d1 := (blk_cell HD1.out 1).trans rfl
    have d2 := (blk_cell HD1.out 2).trans rfl
    have d3 := (blk_cell HD1.out 3).trans rfl
    have dl := (Array.getElem?_eq_some_iff.1 HD1.out).1
    have r0 := (blk_cell HR1.out 0).trans rfl
    have r1 := (blk_cell HR1.out 1).trans rfl
    have r2 := (blk_cell HR1.out 2).trans rfl
    have r3 := (blk_cell HR1.out 3).trans rfl
    have rl := (Array.getElem?_eq_some_iff.1 HR1.out).1
    have rf : ∀ j, w1.frozen? ⟨w.heap.size + 1, j, none⟩ = false := fun j => by simp [World.frozen?, HR1.out]
  · go_wp2
    have hb9 := set_cs (i := 3) (u := .slice none 0 0) (set_cs (i := 2) (u := .slice none 0 0) (set_cs (i := 1) (u := .int .i64 0) (set_cs (i := 0) (u := .int .i64 0) HR1.out)))
    have v0 := (blk_cell hb9 0).trans rfl
    have v1 := (blk_cell hb9 1).trans rfl
    have v2 := (blk_cell hb9 2).trans rfl
    have v3 := (blk_cell hb9 3).trans rfl
    exact bodyPost_ret (v := .tuple #[.agg #[.int .i64 0, .int .i64 0, .slice none 0 0, .slice none 0 0], .bool false]) (by simp [results, Tryd.results52, go_sem, v0, v1, v2, v3]) rfl ⟨.inr ⟨push_no HZ.out, rfl⟩, (((HB1.out.setCell (p := ⟨w.heap.size + 1, 0, none⟩) (by show w.heap.size ≤ w.heap.size + 1; omega) _).setCell (p := ⟨w.heap.size + 1, 1, none⟩) (by show w.heap.size ≤ w.heap.size + 1; omega) _).setCell (p := ⟨w.heap.size + 1, 2, none⟩) (by show w.heap.size ≤ w.heap.size + 1; omega) _).setCell (p := ⟨w.heap.size + 1, 3, none⟩) (by show w.heap.size ≤ w.heap.size + 1; omega) _⟩
  · go_wp2_with fail
    refine (l21Push_any r l ws s (desk_doc HZ.out) g cap g2 cap2 g3 cap3 _ (HL.out.below HB1.out hgw) hn hcap (HI.out.below HB1.out hgi) hn3 hcap3).mono ?_
    rintro e w2 ⟨(⟨hN, rfl⟩ | ⟨hN, K, v, rfl, hrow⟩), hb2⟩
    · have HB2 := hideIt (Bstep HB1.out hb2)
      have HR2 := hideIt (blk_below HR1.out hb2)
      have HN := hideIt hN
      clear hN hb2 d0 d1 d2 d3 dl r0 r1 r2 r3 rl rf
      have r0 := (blk_cell HR2.out 0).trans rfl
      have r1 := (blk_cell HR2.out 1).trans rfl
      have r2 := (blk_cell HR2.out 2).trans rfl
      have r3 := (blk_cell HR2.out 3).trans rfl
      have rl := (Array.getElem?_eq_some_iff.1 HR2.out).1
      have rf : ∀ j, w2.frozen? ⟨w.heap.size + 1, j, none⟩ = false := fun j => by simp [World.frozen?, HR2.out]
      go_wp2
      have hb9 := set_cs (i := 3) (u := .slice none 0 0) (set_cs (i := 2) (u := .slice none 0 0) (set_cs (i := 1) (u := .int .i64 0) (set_cs (i := 0) (u := .int .i64 0) HR2.out)))
      have v0 := (blk_cell hb9 0).trans rfl
      have v1 := (blk_cell hb9 1).trans rfl
      have v2 := (blk_cell hb9 2).trans rfl
      have v3 := (blk_cell hb9 3).trans rfl
      exact bodyPost_ret (v := .tuple #[.agg #[.int .i64 0, .int .i64 0, .slice none 0 0, .slice none 0 0], .bool false]) (by simp [results, Tryd.results52, go_sem, v0, v1, v2, v3]) rfl ⟨.inr ⟨by rw [push_len HZ.out, HN.out]; rfl, rfl⟩, (((HB2.out.setCell (p := ⟨w.heap.size + 1, 0, none⟩) (by show w.heap.size ≤ w.heap.size + 1; omega) _).setCell (p := ⟨w.heap.size + 1, 1, none⟩) (by show w.heap.size ≤ w.heap.size + 1; omega) _).setCell (p := ⟨w.heap.size + 1, 2, none⟩) (by show w.heap.size ≤ w.heap.size + 1; omega) _).setCell (p := ⟨w.heap.size + 1, 3, none⟩) (by show w.heap.size ≤ w.heap.size + 1; omega) _⟩
    · obtain ⟨vp, vc, rfl⟩ := own_len hrow
      have HROW := hideIt (ownsRow_base (b' := w.heap.size) HB1.out.size hrow)
      have HB2 := hideIt (Bstep HB1.out hb2)
      have HR2 := hideIt (blk_below HR1.out hb2)
      have HN := hideIt hN
      clear hN hrow hb2 d0 d1 d2 d3 dl r0 r1 r2 r3 rl rf
      have r0 := (blk_cell HR2.out 0).trans rfl
      have r1 := (blk_cell HR2.out 1).trans rfl
      have r2 := (blk_cell HR2.out 2).trans rfl
      have r3 := (blk_cell HR2.out 3).trans rfl
      have rl := (Array.getElem?_eq_some_iff.1 HR2.out).1
      have rf : ∀ j, w2.frozen? ⟨w.heap.size + 1, j, none⟩ = false := fun j => by simp [World.frozen?, HR2.out]
      generalize hNE : (ansP l s 5).length = N at *
      go_wp2
      have hr1 := row_away (i := 0) (u := .int .i64 3) HROW.out HR2.out (by decide)
      have hc1 := set_cs (i := 0) (u := .int .i64 3) HR2.out
      have hr2 := row_away (i := 1) (u := .int .i64 r) hr1 hc1 (by decide)
      have hc2 := set_cs (i := 1) (u := .int .i64 r) hc1
      have hr3 := row_away (i := 2) (u := .slice (some ⟨K, 0, none⟩) 0 0) hr2 hc2 (by decide)
      have hc3 := set_cs (i := 2) (u := .slice (some ⟨K, 0, none⟩) 0 0) hc2
      have hr4 := row_away (i := 3) (u := .slice vp N vc) hr3 hc3 (by decide)
      have hb9 := set_cs (i := 3) (u := .slice vp N vc) hc3
      have v0 := (blk_cell hb9 0).trans rfl
      have v1 := (blk_cell hb9 1).trans rfl
      have v2 := (blk_cell hb9 2).trans rfl
      have v3 := (blk_cell hb9 3).trans rfl
      exact bodyPost_ret (v := .tuple #[.agg #[.int .i64 3, .int .i64 r, .slice (some ⟨K, 0, none⟩) 0 0, .slice vp N vc], .bool true]) (by simp [results, Tryd.results52, go_sem, v0, v1, v2, v3]) rfl ⟨.inl ⟨by rw [push_len HZ.out, hNE]; simpa using HN.out, _, _, rfl, by rw [hNE]; exact hr4⟩, (((HB2.out.setCell (p := ⟨w.heap.size + 1, 0, none⟩) (by show w.heap.size ≤ w.heap.size + 1; omega) _).setCell (p := ⟨w.heap.size + 1, 1, none⟩) (by show w.heap.size ≤ w.heap.size + 1; omega) _).setCell (p := ⟨w.heap.size + 1, 2, none⟩) (by show w.heap.size ≤ w.heap.size + 1; omega) _).setCell (p := ⟨w.heap.size + 1, 3, none⟩) (by show w.heap.size ≤ w.heap.size + 1; omega) _⟩
end Go.Proofs.YtficnhlkefpfnaaDoor

namespace Go.Proofs.YtficnhlkefpfnaaDoor
open Go.RowKit
set_option linter.unusedSimpArgs false
set_option linter.unusedVariables false
attribute [local go_sem ↓] Go.wp_at_zero Go.wp_at_succ

set_option maxHeartbeats 2000000 in
theorem markOpsF_any (g n cap m0 : Nat) (w : World) (hl : Blk w g n) (hn : n ≤ 1048576) (hcap : n ≤ cap) (hm : m0 ≤ 9437184) :
    Calls Tryd.prog 18 #[.slice (some ⟨g, 0, none⟩) n cap, .int .i64 m0] w fun e w' => e = .returned (.int .i64 ((m0 : Int) + 7 * n)) ∧ OnlyBlk g w w' := by
  have HL := hideIt hl
  clear hl
  go_enter Tryd.func18, Tryd.ntmps18
  go_wp2
  go_loopw [1, 5] (fun m i wr => ∃ k : Nat, k ≤ n ∧ i = .int .i64 k ∧ m = .int .i64 ((m0 : Int) + 7 * k) ∧ Blk wr g n ∧ OnlyBlk g w wr)
    (fun _ i _ => n - (intOf i).toNat)
  case atStart => exact ⟨0, Nat.zero_le _, rfl, by simp, HL.out, OnlyBlk.refl _ _⟩
  case round =>
    obtain ⟨k, hk, rfl, rfl, hb, ho⟩ := hrel
    have HBK := hideIt hb
    have HO := hideIt ho
    clear ho
    by_cases hlt : k < n
    · have hfz : ∀ j, wr.frozen? ⟨g, j, none⟩ = false := fun j => hb.frozen j
      obtain ⟨u0, e0⟩ := hb.cell (k * 7) (by omega)
      obtain ⟨v1, e1⟩ := hb.cell (k * 7 + 1) (by omega)
      obtain ⟨v2, e2⟩ := hb.cell (k * 7 + 2) (by omega)
      obtain ⟨v3, e3⟩ := hb.cell (k * 7 + 3) (by omega)
      obtain ⟨v4, e4⟩ := hb.cell (k * 7 + 4) (by omega)
      obtain ⟨v5, e5⟩ := hb.cell (k * 7 + 5) (by omega)
      obtain ⟨v6, e6⟩ := hb.cell (k * 7 + 6) (by omega)
      have hlt' : (k : Int) < (n : Int) := by omega
      have hk0 : (0 : Int) ≤ (k : Int) := by omega
      clear hb
      go_wp2
      exact ⟨⟨k + 1, by omega, by go_num, by go_num, ((((((HBK.out.setCell _ _).setCell _ _).setCell _ _).setCell _ _).setCell _ _).setCell _ _).setCell _ _, ((((((HO.out.setCell _ _).setCell _ _).setCell _ _).setCell _ _).setCell _ _).setCell _ _).setCell _ _⟩, by simp [intOf]; omega⟩
    · obtain rfl : k = n := by omega
      clear hb
      go_wp2
      go_ret
      exact ⟨rfl, HO.out⟩

/-- But for three blocks nothing that was there has turned. -/
structure Turned (a b c : Nat) (w w' : World) : Prop where
  below : ∀ B, B ≤ a → B ≤ b → B ≤ c → B ≤ w.heap.size → Below B w w'
  block : ∀ k, k < w.heap.size → k ≠ a → k ≠ b → k ≠ c → w'.heap[k]? = w.heap[k]?
  size : w.heap.size ≤ w'.heap.size
theorem Turned.of_below {a b c : Nat} {w w' : World} (h : Below w.heap.size w w') : Turned a b c w w' := ⟨fun B _ _ _ hB => h.mono hB, fun k hk _ _ _ => h.block k hk, h.size⟩
theorem Turned.of_only {a b c g : Nat} {w w' : World} (h : OnlyBlk g w w') (hg : g = a ∨ g = b ∨ g = c) : Turned a b c w w' :=
  ⟨fun B ha hb hc _ => h.below (by rcases hg with rfl | rfl | rfl <;> assumption), fun k _ ha hb hc => h.block k (by rcases hg with rfl | rfl | rfl <;> assumption), Nat.le_of_eq h.size.symm⟩
theorem Turned.trans {a b c : Nat} {w w' w2 : World} (h : Turned a b c w w') (k : Turned a b c w' w2) : Turned a b c w w2 :=
  ⟨fun B ha hb hc hB => (h.below B ha hb hc hB).trans (k.below B ha hb hc (Nat.le_trans hB h.size)), fun i hi ha hb hc => (k.block i (Nat.lt_of_lt_of_le hi h.size) ha hb hc).trans (h.block i hi ha hb hc), Nat.le_trans h.size k.size⟩
theorem Turned.wider {a b c d e f : Nat} {w w' : World} (h : Turned a b c w w') (ha : a = d ∨ a = e ∨ a = f) (hb : b = d ∨ b = e ∨ b = f) (hc : c = d ∨ c = e ∨ c = f) : Turned d e f w w' :=
  ⟨fun B h1 h2 h3 hB => h.below B (by rcases ha with rfl | rfl | rfl <;> assumption) (by rcases hb with rfl | rfl | rfl <;> assumption) (by rcases hc with rfl | rfl | rfl <;> assumption) hB,
    fun k hk h1 h2 h3 => h.block k hk (by rcases ha with rfl | rfl | rfl <;> assumption) (by rcases hb with rfl | rfl | rfl <;> assumption) (by rcases hc with rfl | rfl | rfl <;> assumption), h.size⟩
theorem Turned.at {a b c k : Nat} {w w' : World} {o : Obj} (h : Turned a b c w w') (hk : w.heap[k]? = some o) (ha : k ≠ a) (hb : k ≠ b) (hc : k ≠ c) : w'.heap[k]? = some o := (h.block k (Array.getElem?_eq_some_iff.1 hk).1 ha hb hc).trans hk
theorem Turned.ints {a b c g : Nat} {w w' : World} {xs : List Int} (h : Turned a b c w w') (hg : IntsAt w g xs) (ha : g ≠ a) (hb : g ≠ b) (hc : g ≠ c) : IntsAt w' g xs := by
  refine ⟨Nat.lt_of_lt_of_le hg.1 h.size, fun i x hx => ?_⟩
  have e : w'.cell? ⟨g, i, none⟩ = w.cell? ⟨g, i, none⟩ := by simp [World.cell?, h.block g hg.1 ha hb hc]
  rw [e]; exact hg.2 i x hx

theorem Blk.lt {w : World} {g n : Nat} (h : Blk w g n) : g < w.heap.size := by
  obtain ⟨cur, h1, _⟩ := h
  exact (Array.getElem?_eq_some_iff.1 h1).1
theorem IBlk.lt {w : World} {g n : Nat} (h : IBlk w g n) : g < w.heap.size := by
  obtain ⟨cur, h1, _⟩ := h
  exact (Array.getElem?_eq_some_iff.1 h1).1
theorem Blk.turned {a b c g n : Nat} {w w' : World} (h : Blk w g n) (t : Turned a b c w w') (ha : g ≠ a) (hb : g ≠ b) (hc : g ≠ c) : Blk w' g n := by
  obtain ⟨cur, h1, h2⟩ := h
  exact ⟨cur, t.at h1 ha hb hc, h2⟩
theorem IBlk.turned {a b c g n : Nat} {w w' : World} (h : IBlk w g n) (t : Turned a b c w w') (ha : g ≠ a) (hb : g ≠ b) (hc : g ≠ c) : IBlk w' g n := by
  obtain ⟨cur, h1, h2⟩ := h
  exact ⟨cur, t.at h1 ha hb hc, h2⟩
theorem Blk.keep {g n : Nat} {w w' : World} (h : Blk w g n) (hb : Below w.heap.size w w') : Blk w' g n := by
  obtain ⟨cur, h1, h2⟩ := h
  exact ⟨cur, blk_below h1 hb, h2⟩
theorem IBlk.keep {g n : Nat} {w w' : World} (h : IBlk w g n) (hb : Below w.heap.size w w') : IBlk w' g n := by
  obtain ⟨cur, h1, h2⟩ := h
  exact ⟨cur, blk_below h1 hb, h2⟩

set_option maxHeartbeats 1000000 in
theorem markDocF_any (a b n m : Nat) (w : World) (ha : Blk w a n) (hb : Blk w b m) (hab : a ≠ b) (hn : n + m ≤ 1048576) :
    Calls Tryd.prog 48 #[.agg #[.slice (some ⟨a, 0, none⟩) n n, .slice (some ⟨b, 0, none⟩) m m], .int .i64 1] w fun e w' => e = .returned (.int .i64 ((1 + 7 * n + 7 * m : Nat) : Int)) ∧ Turned a b b w w' := by
  have HA := hideIt ha
  have HB := hideIt hb
  have hal := ha.lt
  have hbl := hb.lt
  clear ha hb
  have hB0 : Below w.heap.size w (w.alloc (.cells #[.slice (some ⟨a, 0, none⟩) n n, .slice (some ⟨b, 0, none⟩) m m] 39)) := (Below.refl _ _).alloc (Nat.le_refl _) _
  have hD0 : (w.alloc (.cells #[.slice (some ⟨a, 0, none⟩) n n, .slice (some ⟨b, 0, none⟩) m m] 39)).heap[w.heap.size]? = some (.cells #[.slice (some ⟨a, 0, none⟩) n n, .slice (some ⟨b, 0, none⟩) m m] 39 (0, 0)) := World.alloc_heap_new _ _
  have HB0 := hideIt hB0
  have HD0 := hideIt hD0
  clear hB0 hD0
  go_enter Tryd.func48, Tryd.ntmps48
  go_wp2_with fail
  refine (markOpsF_any a n n 1 _ (HA.out.keep HB0.out) (by omega) (Nat.le_refl _) (by omega)).mono ?_
  rintro e w1 ⟨rfl, ho⟩
  have HT1 : Hid (Turned a b b w w1) := (Turned.of_below HB0.out).trans (Turned.of_only ho (.inl rfl))
  have hd1 := (Turned.of_only (a := a) (b := b) (c := b) ho (.inl rfl)).at HD0.out (by omega) (by omega) (by omega)
  have HB1 := hideIt ((HB.out.keep HB0.out).turned (Turned.of_only (a := a) (b := a) (c := a) ho (.inl rfl)) (Ne.symm hab) (Ne.symm hab) (Ne.symm hab))
  have d1 := (blk_cell hd1 1).trans rfl
  have dl := (Array.getElem?_eq_some_iff.1 hd1).1
  have e1 : ((1 : Nat) : Int) + 7 * (n : Int) = ((1 + 7 * n : Nat) : Int) := by omega
  rw [e1]
  clear ho hd1 e1 HA HB HB0 HD0
  go_wp2_with fail
  refine (markOpsF_any b m m (1 + 7 * n) _ HB1.out (by omega) (Nat.le_refl _) (by omega)).mono ?_
  rintro e w2 ⟨rfl, ho⟩
  have HT2 := hideIt (HT1.out.trans (Turned.of_only ho (.inr (.inl rfl))))
  have e2 : ((1 + 7 * n : Nat) : Int) + 7 * (m : Int) = ((1 + 7 * n + 7 * m : Nat) : Int) := by omega
  rw [e2]
  clear ho e2 d1 dl HT1 HB1
  go_wp2
  go_ret
  exact ⟨rfl, HT2.out⟩
set_option maxHeartbeats 1000000 in
theorem markDeskF_any (r : Int) (a b c n m k : Nat) (w : World) (ha : Blk w a n) (hb : Blk w b m) (hc : IBlk w c k) (hab : a ≠ b) (hac : a ≠ c) (hbc : b ≠ c) (hn : n + m + k ≤ 1048576) :
    Calls Tryd.prog 28 #[.agg #[.int .i64 r, .slice (some ⟨a, 0, none⟩) n n, .slice (some ⟨b, 0, none⟩) m m, .slice (some ⟨c, 0, none⟩) k k], .int .i64 1] w fun e w' => (∃ s : Nat, e = .returned (.int .i64 s)) ∧ Turned a b c w w' := by
  have HA := hideIt ha
  have HB := hideIt hb
  have HC := hideIt hc
  have hal := ha.lt
  have hbl := hb.lt
  have hcl := hc.lt
  clear ha hb hc
  have hB0 : Below w.heap.size w (w.alloc (.cells #[.int .i64 r, .slice (some ⟨a, 0, none⟩) n n, .slice (some ⟨b, 0, none⟩) m m, .slice (some ⟨c, 0, none⟩) k k] 41)) := (Below.refl _ _).alloc (Nat.le_refl _) _
  have hD0 : (w.alloc (.cells #[.int .i64 r, .slice (some ⟨a, 0, none⟩) n n, .slice (some ⟨b, 0, none⟩) m m, .slice (some ⟨c, 0, none⟩) k k] 41)).heap[w.heap.size]? = some (.cells #[.int .i64 r, .slice (some ⟨a, 0, none⟩) n n, .slice (some ⟨b, 0, none⟩) m m, .slice (some ⟨c, 0, none⟩) k k] 41 (0, 0)) := World.alloc_heap_new _ _
  have HB0 := hideIt hB0
  have HD0 := hideIt hD0
  clear hB0 hD0
  go_enter Tryd.func28, Tryd.ntmps28
  go_wp2_with fail
  refine (markDocF_any a b n m _ (HA.out.keep HB0.out) (HB.out.keep HB0.out) hab (by omega)).mono ?_
  rintro e w1 ⟨rfl, ht⟩
  have HT1 : Hid (Turned a b c w w1) := (Turned.of_below HB0.out).trans (ht.wider (.inl rfl) (.inr (.inl rfl)) (.inr (.inl rfl)))
  have hd1 := ht.at HD0.out (by omega) (by omega) (by omega)
  have HC1 := hideIt ((HC.out.keep HB0.out).turned ht (Ne.symm hac) (Ne.symm hbc) (Ne.symm hbc))
  have d3 := (blk_cell hd1 3).trans rfl
  have dl := (Array.getElem?_eq_some_iff.1 hd1).1
  clear ht hd1 HA HB HC HB0 HD0
  go_wp2_with fail
  refine (markIntS_any c k k (1 + 7 * n + 7 * m) _ HC1.out (by omega) (Nat.le_refl _) (by omega)).mono ?_
  rintro e w2 ⟨rfl, ho⟩
  have HT2 := hideIt (HT1.out.trans (Turned.of_only ho (.inr (.inr rfl))))
  have e2 : ((1 + 7 * n + 7 * m : Nat) : Int) + (k : Int) = ((1 + 7 * n + 7 * m + k : Nat) : Int) := by omega
  rw [e2]
  clear ho e2 d3 dl HT1 HC1
  go_wp2
  go_ret
  exact ⟨⟨_, rfl⟩, HT2.out⟩

theorem eqNoneW_any (p q : Option Addr) (c d : Nat) (w : World) :
    Calls Tryd.prog 17 #[.slice p 0 c, .slice q 0 d] w fun e w' => e = .returned (.bool true) ∧ w' = w := by
  go_enter Tryd.func17, Tryd.ntmps17
  go_wp2
  refine wp_loop_rounds 1 ?_
  rw [rounds_succ]
  go_wp2
  go_ret
  exact ⟨rfl, rfl⟩
theorem heldNoneW_any (p : Option Addr) (c : Nat) (k : Int) (w : World) :
    Calls Tryd.prog 19 #[.slice p 0 c, .int .i64 k] w fun e w' => e = .returned (.int .i64 k) ∧ w' = w := by
  go_enter Tryd.func19, Tryd.ntmps19
  go_wp2
  refine wp_loop_rounds 1 ?_
  rw [rounds_succ]
  go_wp2
  go_ret
  exact ⟨rfl, rfl⟩
theorem markNoneW_any (p : Option Addr) (c : Nat) (k : Int) (w : World) :
    Calls Tryd.prog 18 #[.slice p 0 c, .int .i64 k] w fun e w' => e = .returned (.int .i64 k) ∧ w' = w := by
  go_enter Tryd.func18, Tryd.ntmps18
  go_wp2
  refine wp_loop_rounds 1 ?_
  rw [rounds_succ]
  go_wp2
  go_ret
  exact ⟨rfl, rfl⟩
/-- Two rows of numbers that are both nothing, or both the same three. -/
def SeenQ (w : World) (v u : Value) : Prop := (v = .slice none 0 0 ∧ u = .slice none 0 0) ∨ ∃ C D a b c, v = .slice (some ⟨C, 0, none⟩) 3 3 ∧ u = .slice (some ⟨D, 0, none⟩) 3 3 ∧ IntsAt w C [a, b, c] ∧ IntsAt w D [a, b, c]
theorem SeenQ.below {w w' : World} {v u : Value} (h : SeenQ w v u) (hb : Below w.heap.size w w') : SeenQ w' v u := by
  rcases h with h | ⟨C, D, a, b, c, h1, h2, h3, h4⟩
  · exact .inl h
  · exact .inr ⟨C, D, a, b, c, h1, h2, h3.below hb h3.1, h4.below hb h4.1⟩
set_option maxHeartbeats 1000000 in
theorem eqWord_any (k r : Int) (v u : Value) (p q : Option Addr) (c d : Nat) (w : World) (h : SeenQ w v u) :
    Calls Tryd.prog 27 #[.agg #[.int .i64 k, .int .i64 r, v, .slice p 0 c], .agg #[.int .i64 k, .int .i64 r, u, .slice q 0 d]] w fun e w' => e = .returned (.bool true) ∧ Below w.heap.size w w' := by
  have H := hideIt h
  clear h
  have hv : ∃ P n c, v = .slice P n c := by rcases H.out with ⟨h, _⟩ | ⟨C, _, _, _, _, h, _⟩ <;> exact ⟨_, _, _, h⟩
  have hu : ∃ P n c, u = .slice P n c := by rcases H.out with ⟨_, h⟩ | ⟨_, C, _, _, _, _, h, _⟩ <;> exact ⟨_, _, _, h⟩
  obtain ⟨Pv, nv, cv, rfl⟩ := hv
  obtain ⟨Pu, nu, cu, rfl⟩ := hu
  have eqi : ∀ W : World, Below w.heap.size w W → Calls Tryd.prog 38 #[.slice Pv nv cv, .slice Pu nu cu] W fun e w' => e = .returned (.bool true) ∧ Below W.heap.size W w' := fun W hb => by
    rcases H.out.below hb with ⟨h1, h2⟩ | ⟨C, D, a, b, c, h1, h2, h3, h4⟩
    · cases h1; cases h2
      exact (eqIntS_none _ _ _ _ _).mono fun e w' ⟨h1, h2⟩ => ⟨h1, by rw [h2]; exact Below.refl _ _⟩
    · cases h1; cases h2
      exact (eqIntS_same [a, b, c] C D 3 3 W h3 h4 (by simp) (by simp) (by simp)).mono fun e w' ⟨h1, h2⟩ => ⟨h1, by first | exact h2 | (rw [h2]; exact Below.refl _ _)⟩
  have EQI := hideIt eqi
  clear eqi
  go_enter Tryd.func27, Tryd.ntmps27
  go_wp2_with fail
  have HB0 : Hid (Below w.heap.size w ((w.alloc (.cells #[.int .i64 k, .int .i64 r, .slice Pv nv cv, .slice p 0 c] 46)).alloc (.cells #[.int .i64 k, .int .i64 r, .slice Pu nu cu, .slice q 0 d] 46))) := ((Below.refl _ _).alloc (Nat.le_refl _) _).alloc (by simp) _
  refine (EQI.out _ HB0.out).mono ?_
  rintro e w1 ⟨rfl, hb1⟩
  have HB1 := hideIt (Bstep HB0.out hb1)
  have hc : ∀ b o, b < w.heap.size + 2 → w1.cell? ⟨b, o, none⟩ = _ := fun b o h => (bcell hb1).1 b o (by simp; omega)
  have x3 := hc w.heap.size 3 (by omega)
  have y3 := hc (w.heap.size + 1) 3 (by omega)
  simp [go_sem] at x3 y3
  clear hb1 hc
  go_wp2_with fail
  refine (eqNoneW_any _ _ _ _ _).mono ?_
  rintro e w2 ⟨rfl, hw⟩
  rw [hw]
  clear hw x3 y3
  go_wp2
  go_ret
  exact ⟨rfl, HB1.out⟩
theorem set3_at {w : World} {g : Nat} {x1 x2 x3 : Int} (h : IntsAt w g [x1, x2, x3]) : IntsAt (((w.setCell ⟨g, 0, none⟩ (.int .i64 1)).setCell ⟨g, 1, none⟩ (.int .i64 2)).setCell ⟨g, 2, none⟩ (.int .i64 3)) g [1, 2, 3] := by
  have h0 := h.2 0 _ rfl
  have h1 := h.2 1 _ rfl
  have h2 := h.2 2 _ rfl
  refine ⟨by simpa using h.1, fun i x hx => ?_⟩
  match i with
  | 0 => simp at hx; subst hx; simp [go_sem, h0]
  | 1 => simp at hx; subst hx; simp [go_sem, h1]
  | 2 => simp at hx; subst hx; simp [go_sem, h2]
  | i + 3 => simp at hx
set_option maxHeartbeats 1000000 in
theorem markWord3_any (k r : Int) (C : Nat) (x1 x2 x3 : Int) (p : Option Addr) (c : Nat) (w : World) (hl : IntsAt w C [x1, x2, x3]) (hf : ∀ j, w.frozen? ⟨C, j, none⟩ = false) :
    Calls Tryd.prog 29 #[.agg #[.int .i64 k, .int .i64 r, .slice (some ⟨C, 0, none⟩) 3 3, .slice p 0 c], .int .i64 1] w fun e w' => e = .returned (.int .i64 4) ∧ IntsAt w' C [1, 2, 3] ∧ Turned C C C w w' := by
  have HI := hideIt hl
  have hlt := hl.1
  have hb0 : Below w.heap.size w (w.alloc (.cells #[.int .i64 k, .int .i64 r, .slice (some ⟨C, 0, none⟩) 3 3, .slice p 0 c] 46)) := (Below.refl _ _).alloc (Nat.le_refl _) _
  have hd0 : (w.alloc (.cells #[.int .i64 k, .int .i64 r, .slice (some ⟨C, 0, none⟩) 3 3, .slice p 0 c] 46)).heap[w.heap.size]? = some (.cells #[.int .i64 k, .int .i64 r, .slice (some ⟨C, 0, none⟩) 3 3, .slice p 0 c] 46 (0, 0)) := World.alloc_heap_new _ _
  have HB0 := hideIt hb0
  have HD0 := hideIt hd0
  have HF : Hid (∀ j, (w.alloc (.cells #[.int .i64 k, .int .i64 r, .slice (some ⟨C, 0, none⟩) 3 3, .slice p 0 c] 46)).frozen? ⟨C, j, none⟩ = false) := fun j => ((bcell hb0).2 C j hlt).trans (hf j)
  clear hl hf hb0 hd0
  go_enter Tryd.func29, Tryd.ntmps29
  go_wp2_with fail
  generalize w.alloc (.cells #[.int .i64 k, .int .i64 r, .slice (some ⟨C, 0, none⟩) 3 3, .slice p 0 c] 46) = W1 at *
  have hI1 := HI.out.below HB0.out hlt
  refine (mark3 C x1 x2 x3 _ hI1 HF.out).mono ?_
  rintro e w1 ⟨rfl, hw⟩
  have ho : OnlyBlk C W1 w1 := by rw [hw]; exact (((OnlyBlk.refl C W1).setCell 0 _).setCell 1 _).setCell 2 _
  have h3 : IntsAt w1 C [1, 2, 3] := by rw [hw]; exact set3_at hI1
  clear hw hI1
  have HT := hideIt ((Turned.of_below (a := C) (b := C) (c := C) HB0.out).trans (Turned.of_only ho (.inl rfl)))
  have H3 := hideIt h3
  have hd1 := (Turned.of_only (a := C) (b := C) (c := C) ho (.inl rfl)).at HD0.out (by omega) (by omega) (by omega)
  have d3 := (blk_cell hd1 3).trans rfl
  have dl := (Array.getElem?_eq_some_iff.1 hd1).1
  clear ho h3 hd1 HB0 HD0 HF
  go_wp2_with fail
  refine (markNoneW_any _ _ _ _).mono ?_
  rintro e w2 ⟨rfl, hw⟩
  rw [hw]
  clear hw d3 dl
  go_wp2
  go_ret
  exact ⟨rfl, H3.out, HT.out⟩
set_option maxHeartbeats 1000000 in
theorem markWord0_any (k r : Int) (w : World) :
    Calls Tryd.prog 29 #[.agg #[.int .i64 k, .int .i64 r, .slice none 0 0, .slice none 0 0], .int .i64 1] w fun e w' => e = .returned (.int .i64 1) ∧ Below w.heap.size w w' := by
  have HB0 : Hid (Below w.heap.size w (w.alloc (.cells #[.int .i64 k, .int .i64 r, .slice none 0 0, .slice none 0 0] 46))) := (Below.refl _ _).alloc (Nat.le_refl _) _
  go_enter Tryd.func29, Tryd.ntmps29
  go_wp2_with fail
  refine (markIntS_none _ _ _).mono ?_
  rintro e w1 ⟨rfl, hw⟩
  rw [hw]
  clear hw
  go_wp2_with fail
  refine (markNoneW_any _ _ _ _).mono ?_
  rintro e w2 ⟨rfl, hw⟩
  rw [hw]
  clear hw
  go_wp2
  go_ret
  exact ⟨rfl, HB0.out⟩
set_option maxHeartbeats 1000000 in
theorem heldWord3_any (k r : Int) (C : Nat) (p : Option Addr) (c : Nat) (w : World) (hl : IntsAt w C [1, 2, 3]) :
    Calls Tryd.prog 30 #[.agg #[.int .i64 k, .int .i64 r, .slice (some ⟨C, 0, none⟩) 3 3, .slice p 0 c], .int .i64 1] w fun e w' => e = .returned (.int .i64 4) ∧ Below w.heap.size w w' := by
  have HI := hideIt hl
  have hlt := hl.1
  clear hl
  have HB0 : Hid (Below w.heap.size w (w.alloc (.cells #[.int .i64 k, .int .i64 r, .slice (some ⟨C, 0, none⟩) 3 3, .slice p 0 c] 46))) := (Below.refl _ _).alloc (Nat.le_refl _) _
  go_enter Tryd.func30, Tryd.ntmps30
  go_wp2_with fail
  refine (held3 C 3 _ (HI.out.below HB0.out hlt)).mono ?_
  rintro e w1 ⟨rfl, hw⟩
  rw [hw]
  clear hw
  go_wp2_with fail
  refine (heldNoneW_any _ _ _ _).mono ?_
  rintro e w2 ⟨rfl, hw⟩
  rw [hw]
  clear hw
  go_wp2
  go_ret
  exact ⟨rfl, HB0.out⟩
set_option maxHeartbeats 1000000 in
theorem heldWord0_any (k r : Int) (w : World) :
    Calls Tryd.prog 30 #[.agg #[.int .i64 k, .int .i64 r, .slice none 0 0, .slice none 0 0], .int .i64 1] w fun e w' => e = .returned (.int .i64 1) ∧ Below w.heap.size w w' := by
  have HB0 : Hid (Below w.heap.size w (w.alloc (.cells #[.int .i64 k, .int .i64 r, .slice none 0 0, .slice none 0 0] 46))) := (Below.refl _ _).alloc (Nat.le_refl _) _
  go_enter Tryd.func30, Tryd.ntmps30
  go_wp2_with fail
  refine (heldIntS_none _ _ _).mono ?_
  rintro e w1 ⟨rfl, hw⟩
  rw [hw]
  clear hw
  go_wp2_with fail
  refine (heldNoneW_any _ _ _ _).mono ?_
  rintro e w2 ⟨rfl, hw⟩
  rw [hw]
  clear hw
  go_wp2
  go_ret
  exact ⟨rfl, HB0.out⟩
end Go.Proofs.YtficnhlkefpfnaaDoor

namespace Go.Proofs.YtficnhlkefpfnaaDoor
open Go.RowKit
set_option linter.unusedSimpArgs false
set_option linter.unusedVariables false
attribute [local go_sem ↓] Go.wp_at_zero Go.wp_at_succ

/-- What marks leave. -/
def markO (i : Nat) : Op7 := ⟨1 + 7 * (i : Int), 1 + 7 * (i : Int) + 1, 1 + 7 * (i : Int) + 1 + 1, 1 + 7 * (i : Int) + 1 + 1 + 1, 1 + 7 * (i : Int) + 1 + 1 + 1 + 1, 1 + 7 * (i : Int) + 1 + 1 + 1 + 1 + 1, 1 + 7 * (i : Int) + 1 + 1 + 1 + 1 + 1 + 1⟩
def marksO (n : Nat) : List Op7 := (List.range n).map markO
theorem marksO_len (n : Nat) : (marksO n).length = n := by simp [marksO]
theorem marksO_at {n i : Nat} (h : i < n) : (marksO n)[i]? = some (markO i) := by simp [marksO, h]
theorem opRow_cases {w : World} {base : Nat} {v : Value} {n : Nat} {xs : List Value} (h : w.ownsRow base 71 7 v n xs) : (n = 0 ∧ ∃ p c, v = .slice p 0 c) ∨ (0 < n ∧ ∃ g cap, v = .slice (some ⟨g, 0, none⟩) n cap ∧ n ≤ cap ∧ g < w.heap.size ∧ ∀ j, j < n * 7 → w.cell? ⟨g, j, none⟩ = xs[j]?) := by
  rcases Nat.eq_zero_or_pos n with rfl | h0
  · refine .inl ⟨rfl, ?_⟩
    rcases h.2 with ⟨e, _⟩ | ⟨g, cap, cur, e, _⟩
    · exact ⟨_, _, e⟩
    · exact ⟨_, _, e⟩
  · refine .inr ⟨h0, ?_⟩
    have h' := h
    rcases h.2 with ⟨_, e⟩ | ⟨g, cap, cur, e, h1, h2, h3, _⟩
    · omega
    · subst e
      exact ⟨g, cap, rfl, h3, (Array.getElem?_eq_some_iff.1 h2).1, fun j hj => World.ownsRow.cellAt h' j hj⟩

set_option maxHeartbeats 2000000 in
theorem heldOpS_row (v : Value) (n base : Nat) (w : World) (h : w.ownsRow base 71 7 v n (opCells (marksO n))) (hn : n ≤ 1048576) :
    Calls Tryd.prog 19 #[v, .int .i64 1] w fun e w' => e = .returned (.int .i64 (1 + 7 * n)) ∧ Below w.heap.size w w' := by
  rcases opRow_cases h with ⟨rfl, p1, c1, rfl⟩ | ⟨h0, g, cap, rfl, hc, hg, hx⟩
  · go_enter Tryd.func19, Tryd.ntmps19
    go_wp2
    refine wp_loop_rounds 1 ?_
    rw [rounds_succ]
    go_wp2
    go_ret
    exact ⟨rfl, Below.refl _ _⟩
  · have HX := hideIt hx
    clear h hx
    go_enter Tryd.func19, Tryd.ntmps19
    go_wp2
    go_loopw [1, 5] (fun q i wr => ∃ k : Nat, k ≤ n ∧ i = .int .i64 k ∧ q = .int .i64 (1 + 7 * k) ∧ Below w.heap.size w wr)
      (fun _ i _ => n - (intOf i).toNat)
    case atStart => exact ⟨0, Nat.zero_le _, rfl, rfl, by go_grown⟩
    case round =>
      obtain ⟨k, hk, rfl, rfl, hB⟩ := hrel
      have HB : Hid (Below w.heap.size w wr) := hB
      by_cases hlt : k < n
      · obtain ⟨i0, i1, i2, i3, i4, i5, i6⟩ := opCells_at _ k _ (marksO_at hlt)
        have y0 := ((bcell hB).1 g _ hg).trans ((HX.out (k * 7) (by omega)).trans i0)
        have y1 := ((bcell hB).1 g _ hg).trans ((HX.out (k * 7 + 1) (by omega)).trans i1)
        have y2 := ((bcell hB).1 g _ hg).trans ((HX.out (k * 7 + 2) (by omega)).trans i2)
        have y3 := ((bcell hB).1 g _ hg).trans ((HX.out (k * 7 + 3) (by omega)).trans i3)
        have y4 := ((bcell hB).1 g _ hg).trans ((HX.out (k * 7 + 4) (by omega)).trans i4)
        have y5 := ((bcell hB).1 g _ hg).trans ((HX.out (k * 7 + 5) (by omega)).trans i5)
        have y6 := ((bcell hB).1 g _ hg).trans ((HX.out (k * 7 + 6) (by omega)).trans i6)
        simp only [markO] at y0 y1 y2 y3 y4 y5 y6
        have hlt' : (k : Int) < (n : Int) := by omega
        have hk0 : (0 : Int) ≤ (k : Int) := by omega
        clear hB i0 i1 i2 i3 i4 i5 i6
        go_wp2
        exact ⟨⟨k + 1, by omega, by go_num, by go_num, HB.out⟩, by simp [intOf]; omega⟩
      · obtain rfl : k = n := by omega
        clear hB
        go_wp2
        go_ret
        exact ⟨rfl, HB.out⟩

/-- A block of things of which the first k are marked. -/
def MarkO (w : World) (g cap k : Nat) : Prop := ∃ cur : Array Value, w.heap[g]? = some (.cells cur 71 (0, 0)) ∧ cur.size = cap * 7 ∧ ∀ i, i < k → cur[i * 7]? = some (.int .i64 (markO i).a) ∧ cur[i * 7 + 1]? = some (.int .i64 (markO i).b) ∧ cur[i * 7 + 2]? = some (.int .i64 (markO i).k) ∧ cur[i * 7 + 3]? = some (.int .i64 (markO i).c) ∧ cur[i * 7 + 4]? = some (.int .i64 (markO i).d) ∧ cur[i * 7 + 5]? = some (.int .i64 (markO i).s) ∧ cur[i * 7 + 6]? = some (.int .i64 (markO i).g)
theorem MarkO.step {w : World} {g cap k : Nat} (h : MarkO w g cap k) (hk : k < cap) : MarkO (((((((w.setCell ⟨g, k * 7, none⟩ (.int .i64 (markO k).a)).setCell ⟨g, k * 7 + 1, none⟩ (.int .i64 (markO k).b)).setCell ⟨g, k * 7 + 2, none⟩ (.int .i64 (markO k).k)).setCell ⟨g, k * 7 + 3, none⟩ (.int .i64 (markO k).c)).setCell ⟨g, k * 7 + 4, none⟩ (.int .i64 (markO k).d)).setCell ⟨g, k * 7 + 5, none⟩ (.int .i64 (markO k).s)).setCell ⟨g, k * 7 + 6, none⟩ (.int .i64 (markO k).g)) g cap (k + 1) := by
  obtain ⟨cur, hb, hs, hc⟩ := h
  have b0 := heap_setCell_same w g (k * 7) cur 71 (.int .i64 (markO k).a) hb
  have b1 := heap_setCell_same _ g (k * 7 + 1) _ 71 (.int .i64 (markO k).b) b0
  have b2 := heap_setCell_same _ g (k * 7 + 2) _ 71 (.int .i64 (markO k).k) b1
  have b3 := heap_setCell_same _ g (k * 7 + 3) _ 71 (.int .i64 (markO k).c) b2
  have b4 := heap_setCell_same _ g (k * 7 + 4) _ 71 (.int .i64 (markO k).d) b3
  have b5 := heap_setCell_same _ g (k * 7 + 5) _ 71 (.int .i64 (markO k).s) b4
  have b6 := heap_setCell_same _ g (k * 7 + 6) _ 71 (.int .i64 (markO k).g) b5
  refine ⟨_, b6, by simpa using hs, fun i hi => ?_⟩
  rcases Nat.lt_or_ge i k with h1 | h1
  · obtain ⟨c0, c1, c2, c3, c4, c5, c6⟩ := hc i h1
    refine ⟨?_, ?_, ?_, ?_, ?_, ?_, ?_⟩ <;> (simp only [Array.getElem?_setIfInBounds, Array.size_setIfInBounds]; rw [if_neg (by omega), if_neg (by omega), if_neg (by omega), if_neg (by omega), if_neg (by omega), if_neg (by omega), if_neg (by omega)]; assumption)
  · obtain rfl : i = k := by omega
    refine ⟨?_, ?_, ?_, ?_, ?_, ?_, ?_⟩ <;> (simp [Array.getElem?_setIfInBounds]; omega)
theorem MarkO.frozen {w : World} {g cap k : Nat} (h : MarkO w g cap k) (j : Nat) : w.frozen? ⟨g, j, none⟩ = false := by
  obtain ⟨cur, h1, _⟩ := h
  simp [World.frozen?, h1]
theorem MarkO.cell {w : World} {g cap k : Nat} (h : MarkO w g cap k) (j : Nat) (hj : j < cap * 7) : ∃ u, w.cell? ⟨g, j, none⟩ = some u := by
  obtain ⟨cur, h1, h2, _⟩ := h
  exact ⟨cur[j]'(by omega), by simp [World.cell?, h1]⟩
theorem MarkO.row {w : World} {g cap n base : Nat} (h : MarkO w g cap n) (hn : n ≤ cap) (hm : cap ≤ maxLen) (hb : base ≤ g) : w.ownsRow base 71 7 (.slice (some ⟨g, 0, none⟩) n cap) n (opCells (marksO n)) := by
  obtain ⟨cur, h1, h2, h3⟩ := h
  refine ⟨by rw [opCells_len, marksO_len], .inr ⟨g, cap, cur, rfl, hb, h1, hn, hm, h2, ?_⟩⟩
  apply List.ext_getElem?
  intro j
  rcases Nat.lt_or_ge j (n * 7) with hj | hj
  · rw [List.getElem?_take_of_lt hj]
    obtain ⟨c0, c1, c2, c3, c4, c5, c6⟩ := h3 (j / 7) (by omega)
    obtain ⟨d0, d1, d2, d3, d4, d5, d6⟩ := opCells_at (marksO n) (j / 7) _ (marksO_at (by omega))
    have hj7 : j % 7 = 0 ∨ j % 7 = 1 ∨ j % 7 = 2 ∨ j % 7 = 3 ∨ j % 7 = 4 ∨ j % 7 = 5 ∨ j % 7 = 6 := by omega
    rcases hj7 with hm2 | hm2 | hm2 | hm2 | hm2 | hm2 | hm2
    · rw [show j = j / 7 * 7 by omega, d0]; simpa using c0
    · rw [show j = j / 7 * 7 + 1 by omega, d1]; simpa using c1
    · rw [show j = j / 7 * 7 + 2 by omega, d2]; simpa using c2
    · rw [show j = j / 7 * 7 + 3 by omega, d3]; simpa using c3
    · rw [show j = j / 7 * 7 + 4 by omega, d4]; simpa using c4
    · rw [show j = j / 7 * 7 + 5 by omega, d5]; simpa using c5
    · rw [show j = j / 7 * 7 + 6 by omega, d6]; simpa using c6
  · rw [List.getElem?_eq_none (by simp; omega), List.getElem?_eq_none (by rw [opCells_len, marksO_len]; omega)]

set_option maxHeartbeats 2000000 in
theorem markOpS_row (v : Value) (n base : Nat) (xs : List Value) (w : World) (h : w.ownsRow base 71 7 v n xs) (hn : n ≤ 1048576) :
    Calls Tryd.prog 18 #[v, .int .i64 1] w fun e w' => e = .returned (.int .i64 (1 + 7 * n)) ∧ w'.ownsRow base 71 7 v n (opCells (marksO n)) ∧ w.grownBy w' v.ownBlock := by
  rcases Nat.eq_zero_or_pos n with rfl | h0
  · have h' := h
    rcases opRow_cases h with ⟨_, p1, c1, rfl⟩ | ⟨h0, _⟩
    · have HR : Hid (w.ownsRow base 71 7 (.slice p1 0 c1) 0 (opCells (marksO 0))) := by
        obtain ⟨e1, e2⟩ := h'
        have : xs = [] := List.eq_nil_of_length_eq_zero (by simpa using e1)
        subst this
        exact ⟨rfl, e2.imp id (fun ⟨g, cap, cur, a1, a2, a3, a4, a5, a6, _⟩ => ⟨g, cap, cur, a1, a2, a3, a4, a5, a6, by simp [marksO, opCells]⟩)⟩
      clear h h'
      go_enter Tryd.func18, Tryd.ntmps18
      go_wp2
      refine wp_loop_rounds 1 ?_
      rw [rounds_succ]
      go_wp2
      go_ret
      exact ⟨rfl, HR.out, ⟨rfl, rfl, rfl, Nat.le_refl _, fun _ _ _ => rfl⟩⟩
    · omega
  · obtain ⟨g, cap, cur, rfl, hb, hg, hc, hmx, hcs, _⟩ : ∃ g cap cur, v = .slice (some ⟨g, 0, none⟩) n cap ∧ base ≤ g ∧ w.heap[g]? = some (.cells cur 71 (0, 0)) ∧ n ≤ cap ∧ cap ≤ maxLen ∧ cur.size = cap * 7 ∧ cur.toList.take (n * 7) = xs := by
      rcases h.2 with ⟨_, h1⟩ | h1
      · omega
      · exact h1
    have HM0 : Hid (MarkO w g cap 0) := ⟨cur, hg, hcs, fun i hi => by omega⟩
    clear h hg hcs
    go_enter Tryd.func18, Tryd.ntmps18
    go_wp2
    go_loopw [1, 5] (fun q i wr => ∃ k : Nat, k ≤ n ∧ i = .int .i64 k ∧ q = .int .i64 (1 + 7 * k) ∧ MarkO wr g cap k ∧ w.grownBy wr (some g))
      (fun _ i _ => n - (intOf i).toNat)
    case atStart => exact ⟨0, Nat.zero_le _, rfl, rfl, HM0.out, ⟨rfl, rfl, rfl, Nat.le_refl _, fun _ _ _ => rfl⟩⟩
    case round =>
      obtain ⟨k, hk, rfl, rfl, hM, hG⟩ := hrel
      have HM := hideIt hM
      have HG := hideIt hG
      by_cases hlt : k < n
      · have hfz : ∀ j, wr.frozen? ⟨g, j, none⟩ = false := fun j => hM.frozen j
        obtain ⟨v0, e0⟩ := hM.cell (k * 7) (by omega)
        obtain ⟨v1, e1⟩ := hM.cell (k * 7 + 1) (by omega)
        obtain ⟨v2, e2⟩ := hM.cell (k * 7 + 2) (by omega)
        obtain ⟨v3, e3⟩ := hM.cell (k * 7 + 3) (by omega)
        obtain ⟨v4, e4⟩ := hM.cell (k * 7 + 4) (by omega)
        obtain ⟨v5, e5⟩ := hM.cell (k * 7 + 5) (by omega)
        obtain ⟨v6, e6⟩ := hM.cell (k * 7 + 6) (by omega)
        have hlt' : (k : Int) < (n : Int) := by omega
        have hk0 : (0 : Int) ≤ (k : Int) := by omega
        clear hM hG
        go_wp2
        exact ⟨⟨k + 1, by omega, by go_num, by go_num, HM.out.step (by omega), ((((((HG.out.trans (set_cell_grown _ ⟨g, _, none⟩ _)).trans (set_cell_grown _ ⟨g, _, none⟩ _)).trans (set_cell_grown _ ⟨g, _, none⟩ _)).trans (set_cell_grown _ ⟨g, _, none⟩ _)).trans (set_cell_grown _ ⟨g, _, none⟩ _)).trans (set_cell_grown _ ⟨g, _, none⟩ _)).trans (set_cell_grown _ ⟨g, _, none⟩ _)⟩, by simp [intOf]; omega⟩
      · obtain rfl : k = n := by omega
        clear hM hG
        go_wp2
        go_ret
        exact ⟨rfl, HM.out.row hc hmx hb, HG.out⟩
end Go.Proofs.YtficnhlkefpfnaaDoor

namespace Go.Proofs.YtficnhlkefpfnaaDoor
open Go.RowKit
set_option linter.unusedSimpArgs false
set_option linter.unusedVariables false

set_option maxHeartbeats 1000000 in
theorem toOpS_someF (l : List Op7) (b off cap : Nat) (w : World) (hl : LawAt w b off l) (hn : l.length ≤ 1048576) (hcap : l.length ≤ cap) :
    Calls Tryd.prog 15 #[.slice (some ⟨b, off, none⟩) l.length cap] w fun e w' => e = .returned (.slice (some ⟨w.heap.size, 0, none⟩) l.length l.length) ∧ Filled w' w.heap.size l.length l ∧ Below w.heap.size w w' := by
  obtain ⟨i0, hi, hz0, hz1, hz2⟩ := info_parts infoOpT
  go_enter Tryd.func15, Tryd.ntmps15
  go_wp2_with (first
    | (at_make; refine wpList_make_full _ rfl _ _ 24 rfl w.heap.size 71 i0 _ 7 Tryd.underlying24 hi hz0 hz1 .i64 .i64 _ _ l.length rfl rfl rfl rfl (by rw [hz2]; omega) (by unfold maxLen; omega) (Nat.le_refl _) ?_; intro w1 hown hgrow))
  clear hi hz0 hz1 hz2
  have hB1 : Below w.heap.size w w1 := (Below.refl _ _).grown hgrow (Nat.le_refl _) (fun k h => by cases h)
  have hF0 : Filled w1 w.heap.size 0 l := by
    obtain ⟨_, ⟨h, _⟩ | ⟨g, cap', cur, hv, _, hb, _, _, hs, _⟩⟩ := hown
    · cases h
    · simp only [Value.slice.injEq, Option.some.injEq, Addr.mk.injEq] at hv
      obtain ⟨⟨rfl, _⟩, _, rfl⟩ := hv
      exact ⟨cur, hb, hs, fun i o _ h => by omega⟩
  clear hown hgrow
  go_loopw [4] (fun i wr => ∃ k : Nat, k ≤ l.length ∧ i = .int .i64 k ∧ Filled wr w.heap.size k l ∧ Below w.heap.size w wr)
    (fun i _ => l.length - (intOf i).toNat)
  case atStart => exact ⟨0, Nat.zero_le _, rfl, hF0, hB1⟩
  case round =>
    obtain ⟨k, hk, rfl, hF, hB⟩ := hrel
    have HB : Hid (Below w.heap.size w wr) := hB
    have HF : Hid (Filled wr w.heap.size k l) := hF
    by_cases hlt : k < l.length
    · obtain ⟨h0, h1, h2, h3, h4, h5, h6⟩ := (hl.below hB hl.1).2 k l[k] (by simp [hlt])
      have hbk := (hl.below hB hl.1).1
      obtain ⟨cur, hblk, hsz, hcur⟩ := hF
      have hBlt : w.heap.size < wr.heap.size := by
        rcases Nat.lt_or_ge w.heap.size wr.heap.size with h | h
        · exact h
        · simp [Array.getElem?_eq_none h] at hblk
      have hfz : ∀ o, wr.frozen? ⟨w.heap.size, o, none⟩ = false := fun o => frozen_of_block hblk o
      have hex : ∀ j, j < 7 → ∃ u, wr.cell? ⟨w.heap.size, k * 7 + j, none⟩ = some u := fun j hj => by
        rw [cell_of_block hblk]; exact ⟨_, Array.getElem?_eq_getElem (by omega)⟩
      obtain ⟨u0, e0⟩ := hex 0 (by omega)
      obtain ⟨u1, e1⟩ := hex 1 (by omega)
      obtain ⟨u2, e2⟩ := hex 2 (by omega)
      obtain ⟨u3, e3⟩ := hex 3 (by omega)
      obtain ⟨u4', e4⟩ := hex 4 (by omega)
      obtain ⟨u5', e5⟩ := hex 5 (by omega)
      obtain ⟨u6', e6⟩ := hex 6 (by omega)
      simp only [Nat.add_zero] at e0
      have hlt' : (k : Int) < (l.length : Int) := by omega
      have hk0 : (0 : Int) ≤ (k : Int) := by omega
      clear hB hl hblk hsz hcur hex hB1 hF0
      go_wp2_with (first
        | (go_at_call 46; refine (toOp_any _ _ _ _ _ _ _ _).mono ?_; rintro e w2 ⟨rfl, hb2⟩; obtain ⟨hc2, hf2⟩ := bcell hb2; have HB2 : Hid (Below wr.heap.size wr w2) := hb2; clear hb2))
      exact ⟨⟨k + 1, by omega, by go_num, (HF.out.below HB2.out hBlt).step hlt, (((((((Bstep HB.out HB2.out).setCell (Nat.le_refl _) _).setCell (Nat.le_refl _) _).setCell (Nat.le_refl _) _).setCell (Nat.le_refl _) _).setCell (Nat.le_refl _) _).setCell (Nat.le_refl _) _).setCell (Nat.le_refl _) _⟩, by simp [intOf]; omega⟩
    · obtain rfl : k = l.length := by omega
      clear hB hF hl hB1 hF0
      go_wp2
      go_ret
      exact ⟨rfl, HF.out, HB.out⟩

set_option maxHeartbeats 1000000 in
theorem toOpS_zeroF (p : Option Addr) (cap : Nat) (w : World) :
    Calls Tryd.prog 15 #[.slice p 0 cap] w fun e w' => e = .returned (.slice (some ⟨w.heap.size, 0, none⟩) 0 0) ∧ Filled w' w.heap.size 0 [] ∧ Below w.heap.size w w' := by
  obtain ⟨i0, hi, hz0, hz1, hz2⟩ := info_parts infoOpT
  go_enter Tryd.func15, Tryd.ntmps15
  go_wp2_with (first
    | (at_make; refine wpList_make_full _ rfl _ _ 24 rfl w.heap.size 71 i0 _ 7 Tryd.underlying24 hi hz0 hz1 .i64 .i64 _ _ 0 rfl rfl rfl rfl (by omega) (by unfold maxLen; omega) (Nat.le_refl _) ?_; intro w1 hown hgrow))
  clear hi hz0 hz1 hz2
  have hB1 : Below w.heap.size w w1 := (Below.refl _ _).grown hgrow (Nat.le_refl _) (fun k h => by cases h)
  have hF0 : Filled w1 w.heap.size 0 [] := by
    obtain ⟨_, ⟨h, _⟩ | ⟨g, cap', cur, hv, _, hb, _, _, hs, _⟩⟩ := hown
    · cases h
    · simp only [Value.slice.injEq, Option.some.injEq, Addr.mk.injEq] at hv
      obtain ⟨⟨rfl, _⟩, _, rfl⟩ := hv
      exact ⟨cur, hb, by simpa using hs, fun i o _ h => by omega⟩
  clear hown hgrow
  refine wp_loop_rounds 1 ?_
  rw [rounds_succ]
  go_wp2
  go_ret
  exact ⟨rfl, hF0, hB1⟩


theorem Filled.blk {w : World} {g k : Nat} {l : List Op7} (h : Filled w g k l) : Blk w g l.length := by
  obtain ⟨cur, h1, h2, _⟩ := h
  exact ⟨cur, h1, h2⟩
theorem Blk.below {w w' : World} {g n B : Nat} (h : Blk w g n) (hb : Below B w w') (hB : g < B) : Blk w' g n := by
  obtain ⟨cur, h1, h2⟩ := h
  exact ⟨cur, (hb.block g hB).trans h1, h2⟩
theorem toOpS_anyF (l : List Op7) (p : Option Addr) (cap : Nat) (w : World) (hl : ArgOps w p l) (hn : l.length ≤ 1048576) (hcap : l.length ≤ cap) :
    Calls Tryd.prog 15 #[.slice p l.length cap] w fun e w' => e = .returned (.slice (some ⟨w.heap.size, 0, none⟩) l.length l.length) ∧ OpsAt w' w.heap.size l ∧ Blk w' w.heap.size l.length ∧ Below w.heap.size w w' := by
  rcases hl with rfl | ⟨b, off, rfl, hl⟩
  · refine (toOpS_zeroF p cap w).mono ?_
    rintro e w' ⟨rfl, hF, hB⟩
    exact ⟨rfl, hF.at, hF.blk, hB⟩
  · refine (toOpS_someF l b off cap w hl hn hcap).mono ?_
    rintro e w' ⟨rfl, hF, hB⟩
    exact ⟨rfl, hF.at, hF.blk, hB⟩
end Go.Proofs.YtficnhlkefpfnaaDoor

namespace Go.Proofs.YtficnhlkefpfnaaDoor
open Go.RowKit
set_option linter.unusedSimpArgs false
set_option linter.unusedVariables false
attribute [local go_sem ↓] Go.wp_at_zero Go.wp_at_succ

theorem rowBelowO {w w' : World} {b : Nat} {T : TypeId} {m : Nat} {v : Value} {n : Nat} {xs : List Value} (h : w.ownsRow b T m v n xs) (hb : Below w.heap.size w w') : w'.ownsRow b T m v n xs :=
  h.kept (row := none) ⟨hb.os, hb.tape, hb.output, hb.size, fun i hi _ => hb.block i hi⟩ (by cases v.ownBlock <;> simp)
set_option maxHeartbeats 1000000 in
theorem eqOpS_rows (L : List Op7) (v1 v2 : Value) (base1 base2 : Nat) (w : World) (h1 : w.ownsRow base1 71 7 v1 L.length (opCells L)) (h2 : w.ownsRow base2 71 7 v2 L.length (opCells L)) (hn : L.length ≤ 1048576) :
    Calls Tryd.prog 17 #[v1, v2] w fun e w' => e = .returned (.bool true) ∧ Below w.heap.size w w' := by
  rcases opRow_cases h1 with ⟨h0, p1, c1, rfl⟩ | ⟨h0, g1, c1, rfl, hc1, hg1, hx1⟩
  · rcases opRow_cases h2 with ⟨_, p2, c2, rfl⟩ | ⟨h0', _⟩
    · clear h1 h2
      go_enter Tryd.func17, Tryd.ntmps17
      go_wp2
      refine wp_loop_rounds 1 ?_
      rw [rounds_succ]
      go_wp2
      go_ret
      exact ⟨rfl, Below.refl _ _⟩
    · omega
  · rcases opRow_cases h2 with ⟨h0', _⟩ | ⟨_, g2, c2, rfl, hc2, hg2, hx2⟩
    · omega
    · have at1 : OpsAt w g1 L := OwnOps.at (show OwnOps w base1 g1 c1 L from h1)
      have at2 : OpsAt w g2 L := OwnOps.at (show OwnOps w base2 g2 c2 L from h2)
      exact eqOpS_same L g1 g2 c1 c2 w at1 at2 hn hc1 hc2


/-- The specification's answer, the program's, and the blocks X to Z of what was handed in. -/
structure QR (w W : World) (L Lg : List Op7) (vw vg : Value) (X Z : Nat) : Prop where
  rw : W.ownsRow w.heap.size 71 7 vw L.length (opCells L)
  rg : W.ownsRow (Z + 1) 71 7 vg Lg.length (opCells Lg)
  wx : ∀ j, vw.ownBlock = some j → j < X
  xz : w.heap.size ≤ X
  xl : X ≤ Z
  zl : Z < W.heap.size
  bel : Below w.heap.size w W
theorem QR.below {w W W' : World} {L Lg : List Op7} {vw vg : Value} {X Z : Nat} (h : QR w W L Lg vw vg X Z) (hb : Below W.heap.size W W') : QR w W' L Lg vw vg X Z :=
  ⟨rowBelowO h.rw hb, rowBelowO h.rg hb, h.wx, h.xz, h.xl, Nat.lt_of_lt_of_le h.zl hb.size, Bstep h.bel hb⟩
theorem QR.marked {w W W' : World} {L Lg : List Op7} {vw vg : Value} {X Z b : Nat} (h : QR w W L Lg vw vg X Z) (ho : OnlyBlk b W W') (h1 : X ≤ b) (h2 : b ≤ Z) : QR w W' L Lg vw vg X Z := by
  have hx := h.xz
  have hz := h.zl
  have hg : W.grownBy W' (some b) := ⟨ho.os, ho.tape, ho.output, by rw [ho.size]; exact Nat.le_refl _, fun i _ hne => ho.block i (fun e => hne (by rw [e]))⟩
  refine ⟨h.rw.kept hg ?_, h.rg.kept hg ?_, h.wx, hx, h.xl, by rw [ho.size]; exact hz, h.bel.trans (ho.below (by omega))⟩
  · cases hv : vw.ownBlock with
    | none => exact .inl rfl
    | some j => exact .inr fun e => by have := h.wx j hv; have := Option.some.inj e; omega
  · cases hv : vg.ownBlock with
    | none => exact .inl rfl
    | some j => exact .inr fun e => by have := (h.rg.lt j hv).1; have := Option.some.inj e; omega
theorem QR.own {w W W' : World} {L Lg Lg' : List Op7} {vw vg : Value} {X Z : Nat} (h : QR w W L Lg vw vg X Z) (hg : W.grownBy W' vg.ownBlock) (hr : W'.ownsRow (Z + 1) 71 7 vg Lg'.length (opCells Lg')) : QR w W' L Lg' vw vg X Z := by
  have h1 := h.xz
  have h2 := h.xl
  have ge : ∀ j, vg.ownBlock = some j → Z + 1 ≤ j := fun j e => (h.rg.lt j e).1
  refine ⟨h.rw.kept hg ?_, hr, h.wx, h1, h2, Nat.lt_of_lt_of_le h.zl hg.size, below_grown h.bel hg h.bel.size (fun j e => by have := ge j e; omega)⟩
  cases hv : vw.ownBlock with
  | none => exact .inl rfl
  | some j => exact .inr fun e => by have := h.wx j hv; have := ge j e.symm; omega
end Go.Proofs.YtficnhlkefpfnaaDoor

namespace Go.Proofs.YtficnhlkefpfnaaDoor
open Go.RowKit
set_option linter.unusedSimpArgs false
set_option linter.unusedVariables false
attribute [local go_sem ↓] Go.wp_at_zero Go.wp_at_succ

theorem own_lenW {W : World} {b : Nat} {T : TypeId} {m : Nat} {v : Value} {n : Nat} {xs : List Value} (h : W.ownsRow b T m v n xs) : ∃ p c, v = .slice p n c := by
  rcases h.2 with ⟨rfl, h0⟩ | ⟨g, cap, cur, rfl, _⟩
  · exact ⟨none, 0, by rw [h0]⟩
  · exact ⟨_, _, rfl⟩
theorem row_same {w w' : World} {base : Nat} {T : TypeId} {m n : Nat} {v : Value} {xs : List Value} (h : w.ownsRow base T m v n xs) (hb : ∀ j, v.ownBlock = some j → w'.heap[j]? = w.heap[j]?) : w'.ownsRow base T m v n xs := by
  refine ⟨h.1, ?_⟩
  rcases h.2 with h2 | ⟨g, cap, cur, rfl, h1, hg, rest⟩
  · exact .inl h2
  · exact .inr ⟨g, cap, cur, rfl, h1, (hb g rfl).trans hg, rest⟩
theorem row_turned {w w' : World} {base a b c : Nat} {T : TypeId} {m n : Nat} {v : Value} {xs : List Value} (h : w.ownsRow base T m v n xs) (t : Turned a b c w w') (hn : ∀ j, v.ownBlock = some j → j ≠ a ∧ j ≠ b ∧ j ≠ c) : w'.ownsRow base T m v n xs :=
  row_same h fun j e => t.block j (h.lt j e).2 (hn j e).1 (hn j e).2.1 (hn j e).2.2
/-- But for one row's own block nothing that was there has turned. -/
structure RowOnly (v : Value) (w w' : World) : Prop where
  below : ∀ B, B ≤ w.heap.size → (∀ j, v.ownBlock = some j → B ≤ j) → Below B w w'
  block : ∀ k, k < w.heap.size → v.ownBlock ≠ some k → w'.heap[k]? = w.heap[k]?
  size : w.heap.size ≤ w'.heap.size
theorem RowOnly.at {v : Value} {k : Nat} {w w' : World} {o : Obj} (h : RowOnly v w w') (hk : w.heap[k]? = some o) (hn : ∀ j, v.ownBlock = some j → k ≠ j) : w'.heap[k]? = some o :=
  (h.block k (Array.getElem?_eq_some_iff.1 hk).1 (fun e => hn k e rfl)).trans hk
theorem RowOnly.row {w w' : World} {base : Nat} {T : TypeId} {m n : Nat} {v u : Value} {xs : List Value} (t : RowOnly v w w') (h : w.ownsRow base T m u n xs) (hn : ∀ i j, u.ownBlock = some i → v.ownBlock = some j → i ≠ j) : w'.ownsRow base T m u n xs :=
  row_same h fun j e => t.block j (h.lt j e).2 (fun e2 => hn j j e e2 rfl)

set_option maxHeartbeats 1000000 in
theorem eqWordP_any (k r : Int) (L : List Op7) (v u : Value) (p q : Option Addr) (b1 b2 : Nat) (w : World) (hv : w.ownsRow b1 71 7 v L.length (opCells L)) (hu : w.ownsRow b2 71 7 u L.length (opCells L)) (hn : L.length ≤ 1048576) :
    Calls Tryd.prog 27 #[.agg #[.int .i64 k, .int .i64 r, .slice p 0 0, v], .agg #[.int .i64 k, .int .i64 r, .slice q 0 0, u]] w fun e w' => e = .returned (.bool true) ∧ Below w.heap.size w w' := by
  obtain ⟨vp, vc, rfl⟩ := own_lenW hv
  obtain ⟨up, uc, rfl⟩ := own_lenW hu
  have HV := hideIt hv
  have HU := hideIt hu
  clear hv hu
  go_enter Tryd.func27, Tryd.ntmps27
  go_wp2_with fail
  have HB0 : Hid (Below w.heap.size w ((w.alloc (.cells #[.int .i64 k, .int .i64 r, .slice p 0 0, .slice vp L.length vc] 46)).alloc (.cells #[.int .i64 k, .int .i64 r, .slice q 0 0, .slice up L.length uc] 46))) := ((Below.refl _ _).alloc (Nat.le_refl _) _).alloc (by simp) _
  refine (eqIntS_none _ _ _ _ _).mono ?_
  rintro e w1 ⟨rfl, hw⟩
  rw [hw]
  clear hw
  go_wp2_with fail
  refine (eqOpS_rows L _ _ _ _ _ (rowBelowO HV.out HB0.out) (rowBelowO HU.out HB0.out) hn).mono ?_
  rintro e w2 ⟨rfl, hb2⟩
  have HB2 := hideIt (Bstep HB0.out hb2)
  clear hb2
  go_wp2
  go_ret
  exact ⟨rfl, HB2.out⟩
set_option maxHeartbeats 1000000 in
theorem markWordP_any (k r : Int) (n : Nat) (v : Value) (p : Option Addr) (base : Nat) (xs : List Value) (w : World) (hv : w.ownsRow base 71 7 v n xs) (hn : n ≤ 1048576) :
    Calls Tryd.prog 29 #[.agg #[.int .i64 k, .int .i64 r, .slice p 0 0, v], .int .i64 1] w fun e w' => e = .returned (.int .i64 (1 + 7 * n)) ∧ w'.ownsRow base 71 7 v n (opCells (marksO n)) ∧ RowOnly v w w' := by
  obtain ⟨vp, vc, rfl⟩ := own_lenW hv
  have HV := hideIt hv
  clear hv
  go_enter Tryd.func29, Tryd.ntmps29
  go_wp2_with fail
  have HB0 : Hid (Below w.heap.size w (w.alloc (.cells #[.int .i64 k, .int .i64 r, .slice p 0 0, .slice vp n vc] 46))) := (Below.refl _ _).alloc (Nat.le_refl _) _
  refine (markIntS_none _ _ _).mono ?_
  rintro e w1 ⟨rfl, hw⟩
  rw [hw]
  clear hw
  go_wp2_with fail
  refine (markOpS_row _ n base xs _ (rowBelowO HV.out HB0.out) hn).mono ?_
  rintro e w2 ⟨rfl, hr, hg⟩
  have HR := hideIt hr
  have HO : Hid (RowOnly (.slice vp n vc) w w2) := by
    refine ⟨fun B hB hj => ?_, fun i hi hne => ?_, Nat.le_trans HB0.out.size hg.size⟩
    · exact below_grown (HB0.out.mono hB) hg (Nat.le_trans hB HB0.out.size) hj
    · exact (hg.block i (Nat.lt_of_lt_of_le hi HB0.out.size) (fun e => hne e.symm)).trans (HB0.out.block i hi)
  clear hr hg
  go_wp2
  go_ret
  exact ⟨rfl, HR.out, HO.out⟩
set_option maxHeartbeats 1000000 in
theorem heldWordP_any (k r : Int) (n : Nat) (v : Value) (p : Option Addr) (base : Nat) (w : World) (hv : w.ownsRow base 71 7 v n (opCells (marksO n))) (hn : n ≤ 1048576) :
    Calls Tryd.prog 30 #[.agg #[.int .i64 k, .int .i64 r, .slice p 0 0, v], .int .i64 1] w fun e w' => e = .returned (.int .i64 (1 + 7 * n)) ∧ Below w.heap.size w w' := by
  obtain ⟨vp, vc, rfl⟩ := own_lenW hv
  have HV := hideIt hv
  clear hv
  have hneg : ¬ ((1 + 7 * (n : Int)) < 0) := by omega
  go_enter Tryd.func30, Tryd.ntmps30
  go_wp2_with fail
  have HB0 : Hid (Below w.heap.size w (w.alloc (.cells #[.int .i64 k, .int .i64 r, .slice p 0 0, .slice vp n vc] 46))) := (Below.refl _ _).alloc (Nat.le_refl _) _
  refine (heldIntS_none _ _ _).mono ?_
  rintro e w1 ⟨rfl, hw⟩
  rw [hw]
  clear hw
  go_wp2_with fail
  refine (heldOpS_row _ n base _ (rowBelowO HV.out HB0.out) hn).mono ?_
  rintro e w2 ⟨rfl, hb⟩
  have HB1 := hideIt (Bstep HB0.out hb)
  clear hb
  go_wp2
  go_ret
  exact ⟨rfl, HB1.out⟩
end Go.Proofs.YtficnhlkefpfnaaDoor

namespace Go.Proofs.YtficnhlkefpfnaaDoor
open Go.RowKit
set_option linter.unusedSimpArgs false
set_option linter.unusedVariables false
attribute [local go_sem ↓] Go.wp_at_zero Go.wp_at_succ

theorem Blk.away {W : World} {g n b i : Nat} {u : Value} (h : Blk W g n) (hne : g ≠ b) : Blk (W.setCell ⟨b, i, none⟩ u) g n := by
  obtain ⟨cur, h1, h2⟩ := h
  exact ⟨cur, set_off h1 hne, h2⟩
theorem IBlk.away {W : World} {g n b i : Nat} {u : Value} (h : IBlk W g n) (hne : g ≠ b) : IBlk (W.setCell ⟨b, i, none⟩ u) g n := by
  obtain ⟨cur, h1, h2⟩ := h
  exact ⟨cur, set_off h1 hne, h2⟩
set_option maxRecDepth 100000 in
set_option maxHeartbeats 1000000 in
theorem toDocF_any (l ws : List Op7) (p q : Option Addr) (cap cap2 : Nat) (w : World) (hl : ArgOps w p l) (hn : l.length ≤ 1048576) (hcap : l.length ≤ cap) (hs : ArgOps w q ws) (hn2 : ws.length ≤ 1048576) (hcap2 : ws.length ≤ cap2) :
    Calls Tryd.prog 42 #[.agg #[.slice p l.length cap, .slice q ws.length cap2]] w fun e w' => (∃ g g2, e = .returned (.agg #[.slice (some ⟨g, 0, none⟩) l.length l.length, .slice (some ⟨g2, 0, none⟩) ws.length ws.length]) ∧ OpsAt w' g l ∧ OpsAt w' g2 ws ∧ w.heap.size ≤ g ∧ w.heap.size ≤ g2 ∧ g < g2 ∧ Blk w' g l.length ∧ Blk w' g2 ws.length) ∧ Below w.heap.size w w' := by
  have HL := hideIt hl
  have HS := hideIt hs
  clear hl hs
  obtain ⟨W0, hW0⟩ : ∃ W0, ((w.alloc (.cells #[.slice p l.length cap, .slice q ws.length cap2] 32)).alloc (.cells #[.slice none 0 0, .slice none 0 0] 39)).alloc (.cells #[.slice none 0 0, .slice none 0 0] 39) = W0 := ⟨_, rfl⟩
  have hB0 : Below w.heap.size w W0 := by rw [← hW0]; exact (((Below.refl _ _).alloc (Nat.le_refl _) _).alloc (by simp) _).alloc (by simp; omega) _
  have hA0 : W0.heap[w.heap.size]? = some (.cells #[.slice p l.length cap, .slice q ws.length cap2] 32 (0, 0)) := by
    rw [← hW0]
    exact blk_below (World.alloc_heap_new _ _) (((Below.refl _ _).alloc (Nat.le_refl _) _).alloc (by simp) _)
  have hR0 : W0.heap[w.heap.size + 1]? = some (.cells #[.slice none 0 0, .slice none 0 0] 39 (0, 0)) := by
    rw [← hW0]
    have h := World.alloc_heap_new (w.alloc (.cells #[.slice p l.length cap, .slice q ws.length cap2] 32)) (.cells #[.slice none 0 0, .slice none 0 0] 39)
    rw [World.size_alloc] at h
    exact blk_below h ((Below.refl _ _).alloc (Nat.le_refl _) _)
  have hO0 : W0.heap[w.heap.size + 1 + 1]? = some (.cells #[.slice none 0 0, .slice none 0 0] 39 (0, 0)) := by
    rw [← hW0]
    have h := World.alloc_heap_new ((w.alloc (.cells #[.slice p l.length cap, .slice q ws.length cap2] 32)).alloc (.cells #[.slice none 0 0, .slice none 0 0] 39)) (.cells #[.slice none 0 0, .slice none 0 0] 39)
    rw [World.size_alloc, World.size_alloc] at h
    exact h
  have HB0 := hideIt hB0
  have HA0 := hideIt hA0
  have HR0 := hideIt hR0
  have HO0 := hideIt hO0
  have HW0 := hideIt hW0
  clear hB0 hA0 hR0 hO0 hW0
  go_enter Tryd.func42, Tryd.ntmps42
  go_wp2_with fail
  rw [HW0.out]
  clear HW0
  have hz0 : w.heap.size + 1 + 1 < W0.heap.size := (Array.getElem?_eq_some_iff.1 HO0.out).1
  refine (toOpS_anyF l p cap _ (HL.out.below HB0.out) hn hcap).mono ?_
  rintro e w1 ⟨rfl, hA1, hk1, hb1⟩
  have HG := hideIt hA1
  have HGK := hideIt hk1
  have hG1 : w.heap.size ≤ W0.heap.size := by omega
  have HB1 := hideIt (Bstep HB0.out hb1)
  have HA1 := hideIt (blk_below HA0.out hb1)
  have HR1 := hideIt (blk_below HR0.out hb1)
  have HO1 := hideIt (blk_below HO0.out hb1)
  clear hA1 hk1 hb1 HB0 HA0 HR0 HO0
  generalize W0.heap.size = G at *
  have a1 := (blk_cell HA1.out 1).trans rfl
  have al := (Array.getElem?_eq_some_iff.1 HA1.out).1
  have o0 := (blk_cell HO1.out 0).trans rfl
  have o1 := (blk_cell HO1.out 1).trans rfl
  have ol := (Array.getElem?_eq_some_iff.1 HO1.out).1
  have of : ∀ j, w1.frozen? ⟨w.heap.size + 1 + 1, j, none⟩ = false := fun j => by simp [World.frozen?, HO1.out]
  go_wp2_with fail
  have HO2 := hideIt (set_fst (u' := .slice (some ⟨G, 0, none⟩) l.length l.length) HO1.out)
  have HR2 := hideIt (set_off (c := w.heap.size + 1 + 1) (i := 0) (u := .slice (some ⟨G, 0, none⟩) l.length l.length) HR1.out (by omega))
  have HG2 := hideIt (OpsAt.away (b := w.heap.size + 1 + 1) (i := 0) (u := .slice (some ⟨G, 0, none⟩) l.length l.length) HG.out (by omega))
  have HGK2 := hideIt (Blk.away (b := w.heap.size + 1 + 1) (i := 0) (u := .slice (some ⟨G, 0, none⟩) l.length l.length) HGK.out (by omega))
  have HB2 := hideIt (HB1.out.setCell (p := ⟨w.heap.size + 1 + 1, 0, none⟩) (by show w.heap.size ≤ w.heap.size + 1 + 1; omega) (.slice (some ⟨G, 0, none⟩) l.length l.length))
  clear HO1 HR1 HG HGK HB1 a1 al o0 o1 ol of HA1
  generalize w1.setCell ⟨w.heap.size + 1 + 1, 0, none⟩ (.slice (some ⟨G, 0, none⟩) l.length l.length) = W2 at *
  refine (toOpS_anyF ws q cap2 _ (HS.out.below HB2.out) hn2 hcap2).mono ?_
  rintro e w3 ⟨rfl, hA3, hk3, hb3⟩
  have HK3 := hideIt hA3
  have HKK3 := hideIt hk3
  have HGK3 := hideIt (HGK2.out.below hb3 HG2.out.1)
  have hGG : G < W2.heap.size := HG2.out.1
  have HG3 := hideIt (HG2.out.below hb3 HG2.out.1)
  have HB3 := hideIt (Bstep HB2.out hb3)
  have HO3 := hideIt (blk_below HO2.out hb3)
  have HR3 := hideIt (blk_below HR2.out hb3)
  have hz2 : w.heap.size + 1 + 1 < W2.heap.size := (Array.getElem?_eq_some_iff.1 HO2.out).1
  clear hA3 hk3 hb3 HO2 HR2 HG2 HGK2 HB2
  generalize W2.heap.size = K2 at *
  have o0 := (blk_cell HO3.out 0).trans rfl
  have o1 := (blk_cell HO3.out 1).trans rfl
  have ol := (Array.getElem?_eq_some_iff.1 HO3.out).1
  have of : ∀ j, w3.frozen? ⟨w.heap.size + 1 + 1, j, none⟩ = false := fun j => by simp [World.frozen?, HO3.out]
  have r0 := (blk_cell HR3.out 0).trans rfl
  have r1 := (blk_cell HR3.out 1).trans rfl
  have rl := (Array.getElem?_eq_some_iff.1 HR3.out).1
  have rf : ∀ j, w3.frozen? ⟨w.heap.size + 1, j, none⟩ = false := fun j => by simp [World.frozen?, HR3.out]
  have n1 : ¬ w.heap.size + 1 + 1 = w.heap.size + 1 := by omega
  have n2 : ¬ w.heap.size + 1 = w.heap.size + 1 + 1 := by omega
  go_wp2
  have hb9 := set_snd (v' := .slice (some ⟨K2, 0, none⟩) ws.length ws.length) (set_fst (u' := .slice (some ⟨G, 0, none⟩) l.length l.length) (set_off (c := w.heap.size + 1 + 1) (i := 1) (u := .slice (some ⟨K2, 0, none⟩) ws.length ws.length) HR3.out n2))
  have v0 := (blk_cell hb9 0).trans rfl
  have v1 := (blk_cell hb9 1).trans rfl
  exact bodyPost_ret (v := .agg #[.slice (some ⟨G, 0, none⟩) l.length l.length, .slice (some ⟨K2, 0, none⟩) ws.length ws.length]) (by simp [results, Tryd.results42, go_sem, v0, v1]) rfl
    ⟨⟨G, K2, rfl, ((HG3.out.away (by omega)).away (by omega)).away (by omega), ((HK3.out.away (by omega)).away (by omega)).away (by omega), by omega, by omega, hGG, ((HGK3.out.away (by omega)).away (by omega)).away (by omega), ((HKK3.out.away (by omega)).away (by omega)).away (by omega)⟩,
      ((HB3.out.setCell (p := ⟨w.heap.size + 1 + 1, 1, none⟩) (by show w.heap.size ≤ w.heap.size + 1 + 1; omega) _).setCell (p := ⟨w.heap.size + 1, 0, none⟩) (by show w.heap.size ≤ w.heap.size + 1; omega) _).setCell (p := ⟨w.heap.size + 1, 1, none⟩) (by show w.heap.size ≤ w.heap.size + 1; omega) _⟩

/-- What toDesk makes, in blocks that may be written. -/
def DeskMadeF (base : Nat) (W : World) (e : Ending) (r : Int) (l ws : List Op7) (s : List Int) : Prop := ∃ g g2 g3, e = .returned (.agg #[.int .i64 r, .slice (some ⟨g, 0, none⟩) l.length l.length, .slice (some ⟨g2, 0, none⟩) ws.length ws.length, .slice (some ⟨g3, 0, none⟩) s.length s.length]) ∧ OpsAt W g l ∧ OpsAt W g2 ws ∧ IntsAt W g3 s ∧ base ≤ g ∧ base ≤ g2 ∧ base ≤ g3 ∧ g < g2 ∧ g < g3 ∧ g2 < g3 ∧ Blk W g l.length ∧ Blk W g2 ws.length ∧ IBlk W g3 s.length
set_option maxRecDepth 100000 in
set_option maxHeartbeats 2000000 in
theorem toDeskF_any (r : Int) (l ws : List Op7) (s : List Int) (p q t : Option Addr) (cap cap2 cap3 : Nat) (w : World) (hl : ArgOps w p l) (hn : l.length ≤ 1048576) (hcap : l.length ≤ cap) (hs : ArgOps w q ws) (hn2 : ws.length ≤ 1048576) (hcap2 : ws.length ≤ cap2) (hi : ArgInts w t s) (hn3 : s.length ≤ 1048576) (hcap3 : s.length ≤ cap3) :
    Calls Tryd.prog 22 #[.agg #[.int .i64 r, .slice p l.length cap, .slice q ws.length cap2, .slice t s.length cap3]] w fun e w' => DeskMadeF w.heap.size w' e r l ws s ∧ Below w.heap.size w w' := by
  have HL := hideIt hl
  have HS := hideIt hs
  have HI := hideIt hi
  clear hl hs hi
  obtain ⟨W0, hW0⟩ : ∃ W0, ((w.alloc (.cells #[.int .i64 r, .slice p l.length cap, .slice q ws.length cap2, .slice t s.length cap3] 35)).alloc (.cells #[.int .i64 0, .slice none 0 0, .slice none 0 0, .slice none 0 0] 41)).alloc (.cells #[.int .i64 r, .slice none 0 0, .slice none 0 0, .slice none 0 0] 41) = W0 := ⟨_, rfl⟩
  have hB0 : Below w.heap.size w W0 := by rw [← hW0]; exact (((Below.refl _ _).alloc (Nat.le_refl _) _).alloc (by simp) _).alloc (by simp; omega) _
  have hA0 : W0.heap[w.heap.size]? = some (.cells #[.int .i64 r, .slice p l.length cap, .slice q ws.length cap2, .slice t s.length cap3] 35 (0, 0)) := by
    rw [← hW0]
    exact blk_below (World.alloc_heap_new _ _) (((Below.refl _ _).alloc (Nat.le_refl _) _).alloc (by simp) _)
  have hR0 : W0.heap[w.heap.size + 1]? = some (.cells #[.int .i64 0, .slice none 0 0, .slice none 0 0, .slice none 0 0] 41 (0, 0)) := by
    rw [← hW0]
    have h := World.alloc_heap_new (w.alloc (.cells #[.int .i64 r, .slice p l.length cap, .slice q ws.length cap2, .slice t s.length cap3] 35)) (.cells #[.int .i64 0, .slice none 0 0, .slice none 0 0, .slice none 0 0] 41)
    rw [World.size_alloc] at h
    exact blk_below h ((Below.refl _ _).alloc (Nat.le_refl _) _)
  have hO0 : W0.heap[w.heap.size + 1 + 1]? = some (.cells #[.int .i64 r, .slice none 0 0, .slice none 0 0, .slice none 0 0] 41 (0, 0)) := by
    rw [← hW0]
    have h := World.alloc_heap_new ((w.alloc (.cells #[.int .i64 r, .slice p l.length cap, .slice q ws.length cap2, .slice t s.length cap3] 35)).alloc (.cells #[.int .i64 0, .slice none 0 0, .slice none 0 0, .slice none 0 0] 41)) (.cells #[.int .i64 r, .slice none 0 0, .slice none 0 0, .slice none 0 0] 41)
    rw [World.size_alloc, World.size_alloc] at h
    exact h
  have HB0 := hideIt hB0
  have HA0 := hideIt hA0
  have HR0 := hideIt hR0
  have HO0 := hideIt hO0
  have HW0 := hideIt hW0
  clear hB0 hA0 hR0 hO0 hW0
  go_enter Tryd.func22, Tryd.ntmps22
  go_wp2_with fail
  rw [HW0.out]
  clear HW0
  have hz0 : w.heap.size + 1 + 1 < W0.heap.size := (Array.getElem?_eq_some_iff.1 HO0.out).1
  refine (toDocF_any l ws p q cap cap2 _ (HL.out.below HB0.out) hn hcap (HS.out.below HB0.out) hn2 hcap2).mono ?_
  rintro e w1 ⟨⟨g, g2, rfl, hg, hg2, hgg, hgg2, hg12, hk1, hk2⟩, hb1⟩
  have HGK := hideIt hk1
  have HGL := hideIt hk2
  clear hk1 hk2
  have hgz : w.heap.size + 1 + 1 < w1.heap.size := Nat.lt_of_lt_of_le hz0 hb1.size
  have HB1 := hideIt (Bstep HB0.out hb1)
  have HA1 := hideIt (blk_below HA0.out hb1)
  have HR1 := hideIt (blk_below HR0.out hb1)
  have HO1 := hideIt (blk_below HO0.out hb1)
  have HG := hideIt hg
  have HG2 := hideIt hg2
  clear hg hg2 HB0 HA0 HR0 HO0
  have a3 := (blk_cell HA1.out 3).trans rfl
  have al := (Array.getElem?_eq_some_iff.1 HA1.out).1
  have o0 := (blk_cell HO1.out 0).trans rfl
  have o1 := (blk_cell HO1.out 1).trans rfl
  have o2 := (blk_cell HO1.out 2).trans rfl
  have o3 := (blk_cell HO1.out 3).trans rfl
  have of : ∀ j, w1.frozen? ⟨w.heap.size + 1 + 1, j, none⟩ = false := fun j => by simp [World.frozen?, HO1.out]
  go_wp2_with fail
  have HO2 := hideIt (set_cs (i := 2) (u := .slice (some ⟨g2, 0, none⟩) ws.length ws.length) (set_cs (i := 1) (u := .slice (some ⟨g, 0, none⟩) l.length l.length) HO1.out))
  have HA2 := hideIt (set_off (i := 2) (u := .slice (some ⟨g2, 0, none⟩) ws.length ws.length) (set_off (c := w.heap.size + 1 + 1) (i := 1) (u := .slice (some ⟨g, 0, none⟩) l.length l.length) HA1.out (by omega)) (show w.heap.size ≠ w.heap.size + 1 + 1 by omega))
  have HR2 := hideIt (set_off (i := 2) (u := .slice (some ⟨g2, 0, none⟩) ws.length ws.length) (set_off (c := w.heap.size + 1 + 1) (i := 1) (u := .slice (some ⟨g, 0, none⟩) l.length l.length) HR1.out (by omega)) (show w.heap.size + 1 ≠ w.heap.size + 1 + 1 by omega))
  have HG' := hideIt (OpsAt.away (i := 2) (u := .slice (some ⟨g2, 0, none⟩) ws.length ws.length) (OpsAt.away (b := w.heap.size + 1 + 1) (i := 1) (u := .slice (some ⟨g, 0, none⟩) l.length l.length) HG.out (by omega)) (show g ≠ w.heap.size + 1 + 1 by omega))
  have HG2' := hideIt (OpsAt.away (i := 2) (u := .slice (some ⟨g2, 0, none⟩) ws.length ws.length) (OpsAt.away (b := w.heap.size + 1 + 1) (i := 1) (u := .slice (some ⟨g, 0, none⟩) l.length l.length) HG2.out (by omega)) (show g2 ≠ w.heap.size + 1 + 1 by omega))
  have HGK2 := hideIt (Blk.away (i := 2) (u := .slice (some ⟨g2, 0, none⟩) ws.length ws.length) (Blk.away (b := w.heap.size + 1 + 1) (i := 1) (u := .slice (some ⟨g, 0, none⟩) l.length l.length) HGK.out (by omega)) (show g ≠ w.heap.size + 1 + 1 by omega))
  have HGL2 := hideIt (Blk.away (i := 2) (u := .slice (some ⟨g2, 0, none⟩) ws.length ws.length) (Blk.away (b := w.heap.size + 1 + 1) (i := 1) (u := .slice (some ⟨g, 0, none⟩) l.length l.length) HGL.out (by omega)) (show g2 ≠ w.heap.size + 1 + 1 by omega))
  have HB2 := hideIt ((HB1.out.setCell (p := ⟨w.heap.size + 1 + 1, 1, none⟩) (by show w.heap.size ≤ w.heap.size + 1 + 1; omega) (.slice (some ⟨g, 0, none⟩) l.length l.length)).setCell (p := ⟨w.heap.size + 1 + 1, 2, none⟩) (by show w.heap.size ≤ w.heap.size + 1 + 1; omega) (.slice (some ⟨g2, 0, none⟩) ws.length ws.length))
  clear HO1 HA1 HR1 HG HG2 HGK HGL HB1 a3 al o0 o1 o2 o3 of
  have hgz2 : w.heap.size + 1 + 1 < ((w1.setCell ⟨w.heap.size + 1 + 1, 1, none⟩ (.slice (some ⟨g, 0, none⟩) l.length l.length)).setCell ⟨w.heap.size + 1 + 1, 2, none⟩ (.slice (some ⟨g2, 0, none⟩) ws.length ws.length)).heap.size := by simpa using hgz
  generalize (w1.setCell ⟨w.heap.size + 1 + 1, 1, none⟩ (.slice (some ⟨g, 0, none⟩) l.length l.length)).setCell ⟨w.heap.size + 1 + 1, 2, none⟩ (.slice (some ⟨g2, 0, none⟩) ws.length ws.length) = W2 at *
  refine (toIntS_any s t cap3 _ (HI.out.below HB2.out) hn3 hcap3).mono ?_
  rintro e w3 ⟨rfl, hi3, hk3, hb3⟩
  have HIK3 := hideIt hk3
  have HGK3 := hideIt (HGK2.out.below hb3 HG'.out.1)
  have HGL3 := hideIt (HGL2.out.below hb3 HG2'.out.1)
  have hC1 : g < W2.heap.size := HG'.out.1
  have hC2 : g2 < W2.heap.size := HG2'.out.1
  have HI3 := hideIt hi3
  have HG3 := hideIt (HG'.out.below hb3 HG'.out.1)
  have HK3 := hideIt (HG2'.out.below hb3 HG2'.out.1)
  have HB3 := hideIt (Bstep HB2.out hb3)
  have HO3 := hideIt (blk_below HO2.out hb3)
  have HR3 := hideIt (blk_below HR2.out hb3)
  clear hi3 hk3 hb3 HO2 HA2 HR2 HG' HG2' HGK2 HGL2 HB2
  generalize W2.heap.size = C at *
  have o0 := (blk_cell HO3.out 0).trans rfl
  have o1 := (blk_cell HO3.out 1).trans rfl
  have o2 := (blk_cell HO3.out 2).trans rfl
  have o3 := (blk_cell HO3.out 3).trans rfl
  have ol := (Array.getElem?_eq_some_iff.1 HO3.out).1
  have of : ∀ j, w3.frozen? ⟨w.heap.size + 1 + 1, j, none⟩ = false := fun j => by simp [World.frozen?, HO3.out]
  have r0 := (blk_cell HR3.out 0).trans rfl
  have r1 := (blk_cell HR3.out 1).trans rfl
  have r2 := (blk_cell HR3.out 2).trans rfl
  have r3 := (blk_cell HR3.out 3).trans rfl
  have rl := (Array.getElem?_eq_some_iff.1 HR3.out).1
  have rf : ∀ j, w3.frozen? ⟨w.heap.size + 1, j, none⟩ = false := fun j => by simp [World.frozen?, HR3.out]
  have n1 : ¬ w.heap.size + 1 + 1 = w.heap.size + 1 := by omega
  have n2 : ¬ w.heap.size + 1 = w.heap.size + 1 + 1 := by omega
  go_wp2
  have hb9 := set_cs (i := 3) (u := .slice (some ⟨C, 0, none⟩) s.length s.length) (set_cs (i := 2) (u := .slice (some ⟨g2, 0, none⟩) ws.length ws.length) (set_cs (i := 1) (u := .slice (some ⟨g, 0, none⟩) l.length l.length) (set_cs (i := 0) (u := .int .i64 r) (set_off (c := w.heap.size + 1 + 1) (i := 3) (u := .slice (some ⟨C, 0, none⟩) s.length s.length) HR3.out n2))))
  have v0 := (blk_cell hb9 0).trans rfl
  have v1 := (blk_cell hb9 1).trans rfl
  have v2 := (blk_cell hb9 2).trans rfl
  have v3 := (blk_cell hb9 3).trans rfl
  exact bodyPost_ret (v := .agg #[.int .i64 r, .slice (some ⟨g, 0, none⟩) l.length l.length, .slice (some ⟨g2, 0, none⟩) ws.length ws.length, .slice (some ⟨C, 0, none⟩) s.length s.length]) (by simp [results, Tryd.results22, go_sem, v0, v1, v2, v3]) rfl
    ⟨⟨g, g2, C, rfl, ((((HG3.out.away (by omega)).away (by omega)).away (by omega)).away (by omega)).away (by omega), ((((HK3.out.away (by omega)).away (by omega)).away (by omega)).away (by omega)).away (by omega), ((((HI3.out.away (by omega)).away (by omega)).away (by omega)).away (by omega)).away (by omega), by omega, by omega, by omega, hg12, hC1, hC2, ((((HGK3.out.away (by omega)).away (by omega)).away (by omega)).away (by omega)).away (by omega), ((((HGL3.out.away (by omega)).away (by omega)).away (by omega)).away (by omega)).away (by omega), ((((HIK3.out.away (by omega)).away (by omega)).away (by omega)).away (by omega)).away (by omega)⟩,
      ((((HB3.out.setCell (p := ⟨w.heap.size + 1 + 1, 3, none⟩) (by show w.heap.size ≤ w.heap.size + 1 + 1; omega) _).setCell (p := ⟨w.heap.size + 1, 0, none⟩) (by show w.heap.size ≤ w.heap.size + 1; omega) _).setCell (p := ⟨w.heap.size + 1, 1, none⟩) (by show w.heap.size ≤ w.heap.size + 1; omega) _).setCell (p := ⟨w.heap.size + 1, 2, none⟩) (by show w.heap.size ≤ w.heap.size + 1; omega) _).setCell (p := ⟨w.heap.size + 1, 3, none⟩) (by show w.heap.size ≤ w.heap.size + 1; omega) _⟩

end Go.Proofs.YtficnhlkefpfnaaDoor
