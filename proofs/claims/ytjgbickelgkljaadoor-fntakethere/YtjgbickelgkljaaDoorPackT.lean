/- A box with a thing in it. -/
import Derived.Test.YtjgbickelgkljaaDoorPackG
import Derived.Test.YtjgbickelgkljaaDoorPackH
import Derived.Test.YtjgbickelgkljaaDoorPackC
import Derived.Test.YtjgbickelgkljaaDoorPackA
namespace Go.Proofs.YtjgbickelgkljaaDoor
open Go.RowKit Go.Shelf
set_option linter.unusedSimpArgs false
set_option linter.unusedVariables false
attribute [local go_sem ↓] Go.wp_at_zero Go.wp_at_succ build_op0 build_opTake build_opPut

set_option maxRecDepth 100000 in
set_option maxHeartbeats 2000000 in
theorem takingAt_any (l : List Op7) (g cap : Nat) (r t : Int) (x : Addr) (w : World) (hl : OpsAt w g l) (hn : l.length ≤ 1048576) (hcap : l.length ≤ cap)
    (he : w.cell? ⟨0, 0, none⟩ = some (.iface 183 (.pointer (some x)))) (h0 : 0 < w.heap.size) :
    Calls Tryd.prog 91 #[.slice (some ⟨g, 0, none⟩) l.length cap, .int .i64 r, .int .i64 t] w fun e w' =>
      ((mayTake l r t = false ∧ e = .returned (.tuple #[.agg #[.int .i64 0, .int .i64 0, .int .i64 0, .int .i64 0, .int .i64 0, .int .i64 0, .int .i64 0], .iface 183 (.pointer (some x))])) ∨
       (mayTake l r t = true ∧ e = .returned (.tuple #[opV (takeO l r t.toNat), .nilIface]))) ∧ Below w.heap.size w w' := by
  have HL := hideIt hl
  have hgw := hl.1
  clear hl
  go_enter Tryd.func91, Tryd.ntmps91
  go_wp2_with fail
  have HRB := hideIt (RB.start w)
  refine (treeNext_any l g cap r x _ (HL.out.below HRB.out.bel hgw) hn hcap (errB HRB.out.bel h0 he) (posB HRB.out.bel h0)).mono ?_
  rintro e w1 ⟨(⟨hm, rfl⟩ | ⟨hm, b1, b2, b3, base, rfl, hT⟩), hb1⟩
  all_goals
    have HM := hideIt hm
    have HR1 := hideIt (HRB.out.below hb1)
    have hwl := HR1.out.lt
    clear hm hb1 HRB
  · have HA := hideIt (HR1.out.below (((Below.refl _ _).alloc (Nat.le_refl _) (.cells #[.map none, .map none, .map none] 108)).alloc (by simp) (.cells #[.int .i64 0, .int .i64 0] 31)))
    go_wp2_with (first | (refine wpList_store_row rfl 33 _ _ rfl w.heap.size _ rfl rfl 33 _ HA.out.box (by kernel_rfl) rfl (all7 _ _ _ _ _ _ _) ?_; have HST := hideIt (HA.out.stored 0 0 0 0 0 0 0); generalize World.setRow _ _ _ = W9 at *))
    obtain ⟨hb9, hbel9⟩ := HST.out
    have r0 := (blkCell hb9 0).trans rfl
    have r1 := (blkCell hb9 1).trans rfl
    have r2 := (blkCell hb9 2).trans rfl
    have r3 := (blkCell hb9 3).trans rfl
    have r4 := (blkCell hb9 4).trans rfl
    have r5 := (blkCell hb9 5).trans rfl
    have r6 := (blkCell hb9 6).trans rfl
    exact bodyPost_ret (v := .tuple #[.agg #[.int .i64 0, .int .i64 0, .int .i64 0, .int .i64 0, .int .i64 0, .int .i64 0, .int .i64 0], .iface 183 (.pointer (some x))]) (by simp [results, Tryd.results91, go_sem, r0, r1, r2, r3, r4, r5, r6]) rfl ⟨.inl ⟨by simp [mayTake, HM.out], rfl⟩, hbel9⟩
  · have HTT := hideIt hT
    have HOI : Hid (opsB l = true) := by
      have h := HM.out
      unfold mayMore at h
      simp only [Bool.and_eq_true] at h
      exact h.1.1
    clear hT
    generalize hcn : cnt l r + 1 = cn
    have HCN := hideIt hcn
    clear hcn
    go_wp2_with fail
    have HBa : Hid (Below w1.heap.size w1 ((w1.alloc (.cells #[.map (some b1), .map (some b2), .map (some b3)] 108)).alloc (.cells #[.int .i64 r, .int .i64 cn] 31))) := ((Below.refl _ _).alloc (Nat.le_refl _) _).alloc (by simp) _
    have HIa : Hid (((w1.alloc (.cells #[.map (some b1), .map (some b2), .map (some b3)] 108)).alloc (.cells #[.int .i64 r, .int .i64 cn] 31)).heap[w1.heap.size + 1]? = some (.cells #[.int .i64 r, .int .i64 cn] 31 (0, 0))) := by
      have h := World.alloc_heap_new (w1.alloc (.cells #[.map (some b1), .map (some b2), .map (some b3)] 108)) (.cells #[.int .i64 r, .int .i64 cn] 31)
      rw [World.size_alloc] at h
      exact h
    have HR2 := hideIt (HR1.out.below HBa.out)
    refine (callsIn_wide.1 (signAt_in l HOI.out hn w1 b1 b2 b3 base HTT.out 3 (Nat.le_refl _) t x _ HBa.out (errB HR2.out.bel h0 he) (posB HR2.out.bel h0))).mono ?_
    rintro e w3 ⟨(⟨k, j, y, hk, hj, hy, rfl⟩ | ⟨hno, rfl⟩), hb3⟩
    all_goals
      have HR3 := hideIt (HR2.out.below hb3)
      have HI3 := hideIt (blk_below HIa.out hb3)
      have hwl3 := HR3.out.lt
      have hil3 := (Array.getElem?_eq_some_iff.1 HI3.out).1
      have hdd : w1.heap.size + 1 ≠ w.heap.size := by omega
      clear hb3 HR2 HIa HBa
      generalize w1.heap.size + 1 = Bi at *
    · have HYES : Hid (mayTake l r t = true ∧ takeO l r t.toNat = ⟨r, cn, 2, y.a, y.b, 0, 0⟩) := by
        have hlt := (List.getElem?_eq_some_iff.1 hj).1
        subst hk
        refine ⟨?_, ?_⟩
        · simp [mayTake, HM.out, inB]
          omega
        · simp [takeO, takeId, hj, hy, HCN.out]
      clear hk hj hy
      generalize y.a = ya at *
      generalize y.b = yb at *
      have HA := hideIt (HR3.out.below ((Below.refl _ _).alloc (Nat.le_refl _) (.cells #[.int .i64 ya, .int .i64 yb] 31)))
      have d0 := (blk_cell HI3.out 0).trans rfl
      have d1 := (blk_cell HI3.out 1).trans rfl
      go_wp2_with (first | (refine wpList_store_row rfl 33 _ _ rfl w.heap.size _ rfl rfl 33 _ HA.out.box (by kernel_rfl) rfl (all7 _ _ _ _ _ _ _) ?_; have HST := hideIt (HA.out.stored r cn 2 ya yb 0 0); generalize World.setRow _ _ _ = W9 at *))
      obtain ⟨hb9, hbel9⟩ := HST.out
      have r0 := (blkCell hb9 0).trans rfl
      have r1 := (blkCell hb9 1).trans rfl
      have r2 := (blkCell hb9 2).trans rfl
      have r3 := (blkCell hb9 3).trans rfl
      have r4 := (blkCell hb9 4).trans rfl
      have r5 := (blkCell hb9 5).trans rfl
      have r6 := (blkCell hb9 6).trans rfl
      exact bodyPost_ret (v := .tuple #[.agg #[.int .i64 r, .int .i64 cn, .int .i64 2, .int .i64 ya, .int .i64 yb, .int .i64 0, .int .i64 0], .nilIface]) (by simp [results, Tryd.results91, go_sem, r0, r1, r2, r3, r4, r5, r6]) rfl ⟨.inr ⟨HYES.out.1, by rw [HYES.out.2]; rfl⟩, hbel9⟩
    · have HNO : Hid (mayTake l r t = false) := by show mayTake l r t = false; unfold mayTake; rw [hno]; simp
      clear hno
      have HA := hideIt (HR3.out.below ((Below.refl _ _).alloc (Nat.le_refl _) (.cells #[.int .i64 0, .int .i64 0] 31)))
      go_wp2_with (first | (refine wpList_store_row rfl 33 _ _ rfl w.heap.size _ rfl rfl 33 _ HA.out.box (by kernel_rfl) rfl (all7 _ _ _ _ _ _ _) ?_; have HST := hideIt (HA.out.stored 0 0 0 0 0 0 0); generalize World.setRow _ _ _ = W9 at *))
      obtain ⟨hb9, hbel9⟩ := HST.out
      have r0 := (blkCell hb9 0).trans rfl
      have r1 := (blkCell hb9 1).trans rfl
      have r2 := (blkCell hb9 2).trans rfl
      have r3 := (blkCell hb9 3).trans rfl
      have r4 := (blkCell hb9 4).trans rfl
      have r5 := (blkCell hb9 5).trans rfl
      have r6 := (blkCell hb9 6).trans rfl
      exact bodyPost_ret (v := .tuple #[.agg #[.int .i64 0, .int .i64 0, .int .i64 0, .int .i64 0, .int .i64 0, .int .i64 0, .int .i64 0], .iface 183 (.pointer (some x))]) (by simp [results, Tryd.results91, go_sem, r0, r1, r2, r3, r4, r5, r6]) rfl ⟨.inl ⟨HNO.out, rfl⟩, hbel9⟩
end Go.Proofs.YtjgbickelgkljaaDoor

namespace Go.Proofs.YtjgbickelgkljaaDoor
open Go.RowKit Go.Shelf
set_option linter.unusedSimpArgs false
set_option linter.unusedVariables false
attribute [local go_sem ↓] Go.wp_at_zero Go.wp_at_succ build_op0 build_opTake build_opPut

/-- A box of a thing: what lies in it. -/
def S7 (M : Nat) (o : Op7) (W : World) : Prop := W.cell? ⟨M, 0, none⟩ = some (.int .i64 o.a) ∧ W.cell? ⟨M, 1, none⟩ = some (.int .i64 o.b) ∧ W.cell? ⟨M, 2, none⟩ = some (.int .i64 o.k) ∧ W.cell? ⟨M, 3, none⟩ = some (.int .i64 o.c) ∧ W.cell? ⟨M, 4, none⟩ = some (.int .i64 o.d) ∧ W.cell? ⟨M, 5, none⟩ = some (.int .i64 o.s) ∧ W.cell? ⟨M, 6, none⟩ = some (.int .i64 o.g)
theorem S7.of {M : Nat} {o : Op7} {W : World} (h : W.heap[M]? = some (.cells #[.int .i64 o.a, .int .i64 o.b, .int .i64 o.k, .int .i64 o.c, .int .i64 o.d, .int .i64 o.s, .int .i64 o.g] 33 (0, 0))) : S7 M o W :=
  ⟨(blk_cell h 0).trans rfl, (blk_cell h 1).trans rfl, (blk_cell h 2).trans rfl, (blk_cell h 3).trans rfl, (blk_cell h 4).trans rfl, (blk_cell h 5).trans rfl, (blk_cell h 6).trans rfl⟩

attribute [-go_sem] Instr.storeAt
attribute [local go_sem ↓] store_op_new
set_option maxRecDepth 100000 in
set_option maxHeartbeats 2000000 in
theorem implTake_any (l : List Op7) (g cap : Nat) (r t : Int) (x : Addr) (w : World) (hl : OpsAt w g l) (hn : l.length ≤ 1048576) (hcap : l.length ≤ cap)
    (he : w.cell? ⟨0, 0, none⟩ = some (.iface 183 (.pointer (some x)))) (h0 : 0 < w.heap.size) :
    Calls Tryd.prog 48 #[.slice (some ⟨g, 0, none⟩) l.length cap, .int .i64 r, .int .i64 t] w fun e w' =>
      ((mayTake l r t = false ∧ e = .returned (.tuple #[.agg #[.int .i64 0, .int .i64 0, .int .i64 0, .int .i64 0, .int .i64 0, .int .i64 0, .int .i64 0], .bool false])) ∨
       (mayTake l r t = true ∧ e = .returned (.tuple #[opV (takeO l r t.toNat), .bool true]))) ∧ Below w.heap.size w w' := by
  have HL := hideIt hl
  have hgw := hl.1
  clear hl
  go_enter Tryd.func48, Tryd.ntmps48
  go_wp2_with fail
  have HRB := hideIt (RB.start w)
  refine (takingAt_any l g cap r t x _ (HL.out.below HRB.out.bel hgw) hn hcap (errB HRB.out.bel h0 he) (posB HRB.out.bel h0)).mono ?_
  rintro e w1 ⟨(⟨hm, rfl⟩ | ⟨hm, rfl⟩), hb1⟩
  all_goals
    have HM := hideIt hm
    have HR1 := hideIt (HRB.out.below hb1)
    have hwl := HR1.out.lt
    clear hm hb1 HRB
  · go_wp2_with fail
    obtain ⟨Wm, hWm⟩ : ∃ Wm, w1.alloc (.cells #[.int .i64 0, .int .i64 0, .int .i64 0, .int .i64 0, .int .i64 0, .int .i64 0, .int .i64 0] 33) = Wm := ⟨_, rfl⟩
    have hbm : Below w1.heap.size w1 Wm := by rw [← hWm]; exact (Below.refl _ _).alloc (Nat.le_refl _) _
    have hmk : Wm.heap[w1.heap.size]? = some (.cells #[.int .i64 0, .int .i64 0, .int .i64 0, .int .i64 0, .int .i64 0, .int .i64 0, .int .i64 0] 33 (0, 0)) := by rw [← hWm]; exact World.alloc_heap_new _ _
    have HIM := hideIt (HR1.out.below hbm)
    have herrm : Wm.cell? ⟨0, 0, none⟩ = some (.iface 183 (.pointer (some x))) := errB HIM.out.bel h0 he
    rw [hWm]
    clear hWm hbm
    have m0 := (blk_cell hmk 0).trans rfl
    have m1 := (blk_cell hmk 1).trans rfl
    have m2 := (blk_cell hmk 2).trans rfl
    have m3 := (blk_cell hmk 3).trans rfl
    have m4 := (blk_cell hmk 4).trans rfl
    have m5 := (blk_cell hmk 5).trans rfl
    have m6 := (blk_cell hmk 6).trans rfl
    clear hmk
    generalize w1.heap.size = M at *
    have n1 : M ≠ w.heap.size := by omega
    have n2 : 0 ≠ w.heap.size := by omega
    have K1 : Hid (Wm.drew.cell? ⟨M, 0, none⟩ = some (.int .i64 0) ∧ Wm.drew.cell? ⟨M, 1, none⟩ = some (.int .i64 0) ∧ Wm.drew.cell? ⟨M, 2, none⟩ = some (.int .i64 0) ∧ Wm.drew.cell? ⟨M, 3, none⟩ = some (.int .i64 0) ∧ Wm.drew.cell? ⟨M, 4, none⟩ = some (.int .i64 0) ∧ Wm.drew.cell? ⟨M, 5, none⟩ = some (.int .i64 0) ∧ Wm.drew.cell? ⟨M, 6, none⟩ = some (.int .i64 0) ∧ Wm.drew.cell? ⟨0, 0, none⟩ = some (.iface 183 (.pointer (some x)))) := ⟨m0, m1, m2, m3, m4, m5, m6, herrm⟩
    have K9 : Hid ((Wm.drew.setRow w.heap.size #[.int .i64 0, .int .i64 0, .int .i64 0, .int .i64 0, .int .i64 0, .int .i64 0, .int .i64 0]).cell? ⟨M, 0, none⟩ = some (.int .i64 0) ∧ (Wm.drew.setRow w.heap.size #[.int .i64 0, .int .i64 0, .int .i64 0, .int .i64 0, .int .i64 0, .int .i64 0, .int .i64 0]).cell? ⟨M, 1, none⟩ = some (.int .i64 0) ∧ (Wm.drew.setRow w.heap.size #[.int .i64 0, .int .i64 0, .int .i64 0, .int .i64 0, .int .i64 0, .int .i64 0, .int .i64 0]).cell? ⟨M, 2, none⟩ = some (.int .i64 0) ∧ (Wm.drew.setRow w.heap.size #[.int .i64 0, .int .i64 0, .int .i64 0, .int .i64 0, .int .i64 0, .int .i64 0, .int .i64 0]).cell? ⟨M, 3, none⟩ = some (.int .i64 0) ∧ (Wm.drew.setRow w.heap.size #[.int .i64 0, .int .i64 0, .int .i64 0, .int .i64 0, .int .i64 0, .int .i64 0, .int .i64 0]).cell? ⟨M, 4, none⟩ = some (.int .i64 0) ∧ (Wm.drew.setRow w.heap.size #[.int .i64 0, .int .i64 0, .int .i64 0, .int .i64 0, .int .i64 0, .int .i64 0, .int .i64 0]).cell? ⟨M, 5, none⟩ = some (.int .i64 0) ∧ (Wm.drew.setRow w.heap.size #[.int .i64 0, .int .i64 0, .int .i64 0, .int .i64 0, .int .i64 0, .int .i64 0, .int .i64 0]).cell? ⟨M, 6, none⟩ = some (.int .i64 0) ∧ (Wm.drew.setRow w.heap.size #[.int .i64 0, .int .i64 0, .int .i64 0, .int .i64 0, .int .i64 0, .int .i64 0, .int .i64 0]).cell? ⟨0, 0, none⟩ = some (.iface 183 (.pointer (some x)))) := ⟨setRow_cell (W := Wm.drew) n1 m0, setRow_cell (W := Wm.drew) n1 m1, setRow_cell (W := Wm.drew) n1 m2, setRow_cell (W := Wm.drew) n1 m3, setRow_cell (W := Wm.drew) n1 m4, setRow_cell (W := Wm.drew) n1 m5, setRow_cell (W := Wm.drew) n1 m6, setRow_cell (W := Wm.drew) n2 herrm⟩
    have ks1 : (Instr.storeAt 33 (.pointer (some ⟨w.heap.size, 0, none⟩)) (.agg #[.int .i64 0, .int .i64 0, .int .i64 0, .int .i64 0, .int .i64 0, .int .i64 0, .int .i64 0])).run Tryd.prog Wm.drew = .ok () (Wm.drew.setRow w.heap.size #[.int .i64 0, .int .i64 0, .int .i64 0, .int .i64 0, .int .i64 0, .int .i64 0, .int .i64 0]) := store_op Wm.drew w.heap.size _ HIM.out.box rfl 0 0 0 0 0 0 0
    have HST := hideIt ((HIM.out.below ((Below.refl _ _).drew)).stored 0 0 0 0 0 0 0)
    clear m0 m1 m2 m3 m4 m5 m6
    go_region_held3 (fun w' => w'.cell? ⟨M, 0, none⟩ = some (.int .i64 0) ∧ w'.cell? ⟨M, 1, none⟩ = some (.int .i64 0) ∧ w'.cell? ⟨M, 2, none⟩ = some (.int .i64 0) ∧ w'.cell? ⟨M, 3, none⟩ = some (.int .i64 0) ∧ w'.cell? ⟨M, 4, none⟩ = some (.int .i64 0) ∧ w'.cell? ⟨M, 5, none⟩ = some (.int .i64 0) ∧ w'.cell? ⟨M, 6, none⟩ = some (.int .i64 0) ∧ w'.cell? ⟨0, 0, none⟩ = some (.iface 183 (.pointer (some x))))
      (first | with_reducible exact K1.out | with_reducible exact K9.out)
      (first | (go_at_call 66; refine (is_same x _).mono ?_; rintro e w'' ⟨rfl, rfl⟩))
    rename_i hHH
    clear hHH K9 K1 ks1
    generalize World.setRow _ _ _ = W9 at *
    go_wp2
    obtain ⟨hb9, hbel9⟩ := HST.out
    have r0 := (blkCell hb9 0).trans rfl
    have r1 := (blkCell hb9 1).trans rfl
    have r2 := (blkCell hb9 2).trans rfl
    have r3 := (blkCell hb9 3).trans rfl
    have r4 := (blkCell hb9 4).trans rfl
    have r5 := (blkCell hb9 5).trans rfl
    have r6 := (blkCell hb9 6).trans rfl
    exact bodyPost_ret (v := .tuple #[.agg #[.int .i64 0, .int .i64 0, .int .i64 0, .int .i64 0, .int .i64 0, .int .i64 0, .int .i64 0], .bool false]) (by simp [results, Tryd.results48, go_sem, r0, r1, r2, r3, r4, r5, r6]) rfl ⟨.inl ⟨HM.out, rfl⟩, hbel9⟩
  · obtain ⟨oa, ob, ok, oc, od, os, og, ho⟩ : ∃ oa ob ok oc od os og, takeO l r t.toNat = ⟨oa, ob, ok, oc, od, os, og⟩ := ⟨_, _, _, _, _, _, _, rfl⟩
    have HOO := hideIt ho
    rw [ho]
    clear ho
    unfold opV
    dsimp only
    go_wp2_with fail
    obtain ⟨Wm, hWm⟩ : ∃ Wm, w1.alloc (.cells #[.int .i64 oa, .int .i64 ob, .int .i64 ok, .int .i64 oc, .int .i64 od, .int .i64 os, .int .i64 og] 33) = Wm := ⟨_, rfl⟩
    have hbm : Below w1.heap.size w1 Wm := by rw [← hWm]; exact (Below.refl _ _).alloc (Nat.le_refl _) _
    have hmk : Wm.heap[w1.heap.size]? = some (.cells #[.int .i64 oa, .int .i64 ob, .int .i64 ok, .int .i64 oc, .int .i64 od, .int .i64 os, .int .i64 og] 33 (0, 0)) := by rw [← hWm]; exact World.alloc_heap_new _ _
    have HIM := hideIt (HR1.out.below hbm)
    have herrm : Wm.cell? ⟨0, 0, none⟩ = some (.iface 183 (.pointer (some x))) := errB HIM.out.bel h0 he
    rw [hWm]
    clear hWm hbm
    have m0 := (blk_cell hmk 0).trans rfl
    have m1 := (blk_cell hmk 1).trans rfl
    have m2 := (blk_cell hmk 2).trans rfl
    have m3 := (blk_cell hmk 3).trans rfl
    have m4 := (blk_cell hmk 4).trans rfl
    have m5 := (blk_cell hmk 5).trans rfl
    have m6 := (blk_cell hmk 6).trans rfl
    clear hmk
    generalize w1.heap.size = M at *
    have n1 : M ≠ w.heap.size := by omega
    have n2 : 0 ≠ w.heap.size := by omega
    have K1 : Hid (Wm.drew.cell? ⟨M, 0, none⟩ = some (.int .i64 oa) ∧ Wm.drew.cell? ⟨M, 1, none⟩ = some (.int .i64 ob) ∧ Wm.drew.cell? ⟨M, 2, none⟩ = some (.int .i64 ok) ∧ Wm.drew.cell? ⟨M, 3, none⟩ = some (.int .i64 oc) ∧ Wm.drew.cell? ⟨M, 4, none⟩ = some (.int .i64 od) ∧ Wm.drew.cell? ⟨M, 5, none⟩ = some (.int .i64 os) ∧ Wm.drew.cell? ⟨M, 6, none⟩ = some (.int .i64 og) ∧ Wm.drew.cell? ⟨0, 0, none⟩ = some (.iface 183 (.pointer (some x)))) := ⟨m0, m1, m2, m3, m4, m5, m6, herrm⟩
    have K9 : Hid ((Wm.drew.setRow w.heap.size #[.int .i64 oa, .int .i64 ob, .int .i64 ok, .int .i64 oc, .int .i64 od, .int .i64 os, .int .i64 og]).cell? ⟨M, 0, none⟩ = some (.int .i64 oa) ∧ (Wm.drew.setRow w.heap.size #[.int .i64 oa, .int .i64 ob, .int .i64 ok, .int .i64 oc, .int .i64 od, .int .i64 os, .int .i64 og]).cell? ⟨M, 1, none⟩ = some (.int .i64 ob) ∧ (Wm.drew.setRow w.heap.size #[.int .i64 oa, .int .i64 ob, .int .i64 ok, .int .i64 oc, .int .i64 od, .int .i64 os, .int .i64 og]).cell? ⟨M, 2, none⟩ = some (.int .i64 ok) ∧ (Wm.drew.setRow w.heap.size #[.int .i64 oa, .int .i64 ob, .int .i64 ok, .int .i64 oc, .int .i64 od, .int .i64 os, .int .i64 og]).cell? ⟨M, 3, none⟩ = some (.int .i64 oc) ∧ (Wm.drew.setRow w.heap.size #[.int .i64 oa, .int .i64 ob, .int .i64 ok, .int .i64 oc, .int .i64 od, .int .i64 os, .int .i64 og]).cell? ⟨M, 4, none⟩ = some (.int .i64 od) ∧ (Wm.drew.setRow w.heap.size #[.int .i64 oa, .int .i64 ob, .int .i64 ok, .int .i64 oc, .int .i64 od, .int .i64 os, .int .i64 og]).cell? ⟨M, 5, none⟩ = some (.int .i64 os) ∧ (Wm.drew.setRow w.heap.size #[.int .i64 oa, .int .i64 ob, .int .i64 ok, .int .i64 oc, .int .i64 od, .int .i64 os, .int .i64 og]).cell? ⟨M, 6, none⟩ = some (.int .i64 og) ∧ (Wm.drew.setRow w.heap.size #[.int .i64 oa, .int .i64 ob, .int .i64 ok, .int .i64 oc, .int .i64 od, .int .i64 os, .int .i64 og]).cell? ⟨0, 0, none⟩ = some (.iface 183 (.pointer (some x)))) := ⟨setRow_cell (W := Wm.drew) n1 m0, setRow_cell (W := Wm.drew) n1 m1, setRow_cell (W := Wm.drew) n1 m2, setRow_cell (W := Wm.drew) n1 m3, setRow_cell (W := Wm.drew) n1 m4, setRow_cell (W := Wm.drew) n1 m5, setRow_cell (W := Wm.drew) n1 m6, setRow_cell (W := Wm.drew) n2 herrm⟩
    have ks1 : (Instr.storeAt 33 (.pointer (some ⟨w.heap.size, 0, none⟩)) (.agg #[.int .i64 oa, .int .i64 ob, .int .i64 ok, .int .i64 oc, .int .i64 od, .int .i64 os, .int .i64 og])).run Tryd.prog Wm.drew = .ok () (Wm.drew.setRow w.heap.size #[.int .i64 oa, .int .i64 ob, .int .i64 ok, .int .i64 oc, .int .i64 od, .int .i64 os, .int .i64 og]) := store_op Wm.drew w.heap.size _ HIM.out.box rfl oa ob ok oc od os og
    have HST := hideIt ((HIM.out.below ((Below.refl _ _).drew)).stored oa ob ok oc od os og)
    clear m0 m1 m2 m3 m4 m5 m6
    go_region_held3 (fun w' => w'.cell? ⟨M, 0, none⟩ = some (.int .i64 oa) ∧ w'.cell? ⟨M, 1, none⟩ = some (.int .i64 ob) ∧ w'.cell? ⟨M, 2, none⟩ = some (.int .i64 ok) ∧ w'.cell? ⟨M, 3, none⟩ = some (.int .i64 oc) ∧ w'.cell? ⟨M, 4, none⟩ = some (.int .i64 od) ∧ w'.cell? ⟨M, 5, none⟩ = some (.int .i64 os) ∧ w'.cell? ⟨M, 6, none⟩ = some (.int .i64 og) ∧ w'.cell? ⟨0, 0, none⟩ = some (.iface 183 (.pointer (some x))))
      (first | with_reducible exact K1.out | with_reducible exact K9.out)
      (first | (go_at_call 66; refine (is_nil x _).mono ?_; rintro e w'' ⟨rfl, rfl⟩))
    rename_i hHH
    clear hHH K9 K1 ks1
    generalize World.setRow _ _ _ = W9 at *
    go_wp2
    obtain ⟨hb9, hbel9⟩ := HST.out
    have r0 := (blkCell hb9 0).trans rfl
    have r1 := (blkCell hb9 1).trans rfl
    have r2 := (blkCell hb9 2).trans rfl
    have r3 := (blkCell hb9 3).trans rfl
    have r4 := (blkCell hb9 4).trans rfl
    have r5 := (blkCell hb9 5).trans rfl
    have r6 := (blkCell hb9 6).trans rfl
    exact bodyPost_ret (v := .tuple #[.agg #[.int .i64 oa, .int .i64 ob, .int .i64 ok, .int .i64 oc, .int .i64 od, .int .i64 os, .int .i64 og], .bool true]) (by simp [results, Tryd.results48, go_sem, r0, r1, r2, r3, r4, r5, r6]) rfl ⟨.inr ⟨HM.out, by rw [HOO.out]; rfl⟩, hbel9⟩
/-- What both answer. -/
def takeA (l : List Op7) (r t : Int) : Op7 := if mayTake l r t = true then takeO l r t.toNat else ⟨0, 0, 0, 0, 0, 0, 0⟩
theorem takeA_of {l : List Op7} {r t : Int} {e : Ending} (h : (mayTake l r t = false ∧ e = .returned (.tuple #[.agg #[.int .i64 0, .int .i64 0, .int .i64 0, .int .i64 0, .int .i64 0, .int .i64 0, .int .i64 0], .bool false])) ∨ (mayTake l r t = true ∧ e = .returned (.tuple #[opV (takeO l r t.toNat), .bool true]))) : e = .returned (.tuple #[opV (takeA l r t), .bool (mayTake l r t)]) := by
  rcases h with ⟨h1, h2⟩ | ⟨h1, h2⟩
  · rw [h2]; unfold takeA; rw [h1]; rfl
  · rw [h2]; unfold takeA; rw [h1]; rfl
end Go.Proofs.YtjgbickelgkljaaDoor

namespace Go.Proofs.YtjgbickelgkljaaDoor
open Go.RowKit
set_option linter.unusedSimpArgs false
set_option linter.unusedVariables false
/-- A box with a thing in it, in memory that has grown. -/
structure OX (b : Nat) (o : Op7) (w W : World) : Prop where
  box : W.heap[b]? = some (.cells #[.int .i64 o.a, .int .i64 o.b, .int .i64 o.k, .int .i64 o.c, .int .i64 o.d, .int .i64 o.s, .int .i64 o.g] 33 (0, 0))
  bel : Below w.heap.size w W
theorem OX.below {b : Nat} {o : Op7} {w W W' : World} (h : OX b o w W) (hb : Below W.heap.size W W') : OX b o w W' := ⟨blk_below h.box hb, Bstep h.bel hb⟩
end Go.Proofs.YtjgbickelgkljaaDoor
